/-
  What the statement's proof rests on, part 25.
  Conditions: each theorem's own.
-/
import Derived.Test.YtcnjpmcelihknaaGreatDoorV23
import Derived.Deep.AppendSrc
import Derived.Lib.LazyBuf
import Derived.Shelf.Spec.SlicesInsert
import Derived.Laws.CopyOwn
import Derived.Lib.SlBytesConst
import Derived.Shelf.Slices.Clone
import Derived.Test.YtcnjpmcelihknaaGreatDoorVtk
open Go.Lib (hid)
namespace Go.Proofs.YtcnjpmcelihknaaGreatDoor.U
open Go.RowKit Go.Maps
def signL:List Nat:=[80,65,82,84]
def preK (f:Nat->Nat):Nat->List Nat
 | 0=>signL
 | k+1=>preK f k++putL (f k) 4
theorem preK_length (f:Nat->Nat):∀k,(preK f k).length=4+k*4
 | 0=>rfl
 | k+1=>by rw [preK,List.length_append,preK_length f k,putL_length];omega
theorem preK_small (f:Nat->Nat):∀k,Small (preK f k)
 | 0=>by unfold preK signL;intro x hx;simp at hx;omega
 | k+1=>by
  intro x hx
  rw [preK,List.mem_append] at hx
  rcases hx with hx | hx
  ·exact preK_small f k x hx
  ·exact putL_small _ _ x hx
def bodyL (f:Nat->Nat):List Nat:=preK f 3++List.replicate 108 0
def headL (f:Nat->Nat):List Nat:=bodyL f++putL (Nums.sum 0 (bodyL f)) 4
theorem bodyL_length (f:Nat->Nat):(bodyL f).length=124:=by rw [bodyL,List.length_append,preK_length,List.length_replicate]
theorem headL_length (f:Nat->Nat):(headL f).length=128:=by rw [headL,List.length_append,bodyL_length,putL_length]
theorem bodyL_small (f:Nat->Nat):Small (bodyL f):=by
 intro x hx
 rw [bodyL,List.mem_append] at hx
 rcases hx with hx | hx
 ·exact preK_small f 3 x hx
 ·rw [(List.mem_replicate.1 hx).2];decide
theorem headL_small (f:Nat->Nat):Small (headL f):=by
 intro x hx
 rw [headL,List.mem_append] at hx
 rcases hx with hx | hx
 ·exact bodyL_small f x hx
 ·exact putL_small _ _ x hx
theorem body_sum_lt (f:Nat->Nat):Nums.sum 0 (bodyL f)<2 ^ (8*4):=Nums.sum_lt (bodyL_small f) (by decide)
/-! ### bytes behind what a row has -/
def setL (l:List Value) (o:Nat):List Value->List Value
 | []=>l
 | v :: r=>setL (l.set o v) (o+1) r
theorem setL_eq (l:List Value) (o:Nat) (vs:List Value) (h:o+vs.length<=l.length):setL l o vs=l.take o++vs++l.drop (o+vs.length):=by
 induction vs generalizing l o with
 | nil=>simp [setL]
 | cons v r ih =>
  have h':o+(r.length+1)<=l.length:=h
  rw [setL,ih (l.set o v) (o+1) (by rw [List.length_set];omega)]
  have h1:(l.set o v).take (o+1)=l.take o++[v]:=by
   rw [List.take_succ_eq_append_getElem (by rw [List.length_set];omega),List.take_set_of_le (Nat.le_refl _)]
   simp
  have h2:(l.set o v).drop (o+1+r.length)=l.drop (o+(r.length+1)):=by
   rw [List.drop_set_of_lt (by omega)]
   congr 1;omega
  rw [h1,h2]
  simp
theorem setCells_heapP {g:Nat} {t:TypeId}:∀(vs:List Value) (o:Nat) (W:World) (cur:List Value),W.heap[g]?=some (.cells cur.toArray t (0,0))->(W.setCells g o vs).heap[g]?=some (.cells (setL cur o vs).toArray t (0,0))
 | [],_,_,_,h=>h
 | v :: r,o,W,cur,h=>by
  have h2:=heap_setCell_same W g o cur.toArray t v h
  rw [List.setIfInBounds_toArray] at h2
  exact setCells_heapP r (o+1) _ _ h2
theorem splice_pad (a:List Nat) (n k:Nat) (c:List Nat) (h:a.length=k) (_:c.length<=n) :
  splice (bts (a++List.replicate n 0)) k (bts c)=bts ((a++c)++List.replicate (n-c.length) 0):=by
 unfold splice
 subst h
 simp only [bts,List.length_map,List.map_append,List.map_replicate]
 rw [List.take_append_of_le_length (by simp),List.take_of_length_le (by simp),List.drop_append,List.drop_eq_nil_of_le (by simp),List.nil_append,List.drop_replicate]
 simp
theorem only_setCells (g:Nat):∀(vs:List Value) (o:Nat) (w:World),Sh.Only (fun b=>b=g) w (w.setCells g o vs)
 | [],_,w=>Sh.Only.refl _ w
 | v :: r,o,w=>by
  have h1:Sh.Only (fun b=>b=g) w (w.setCell ⟨g,o,none⟩ v):=(Sh.Only.refl (fun b=>b=g) w).setCell (p:=⟨g,o,none⟩) (.inl rfl) v
  exact h1.trans (only_setCells g r (o+1) _) (fun _ h=>.inl h)
def Pad (w:World) (g:Nat) (l:List Nat):Prop:=w.heap[g]?=some (.cells (bts (l++List.replicate (128-l.length) 0)).toArray 5 (0,0))
theorem Pad.same {w w':World} {g:Nat} {l:List Nat} (h:Pad w g l) (hk:w'.heap[g]?=w.heap[g]?):Pad w' g l:=hk.trans h
theorem Pad.lt {w:World} {g:Nat} {l:List Nat} (h:Pad w g l):g<w.heap.size:=(Array.getElem?_eq_some_iff.1 h).1
theorem run_append_pad {w:World} {g n:Nat} {l c:List Nat} (h:Pad w g l) (tx ty:TypeId) (x:Value) (hs:Src Tryz.prog 1 tx x c.length (bts c) w) (hn:l.length=n) (hfit:n+c.length<=128) :
  ∃w',(Builtin.append_ #[24,tx] ty #[.slice (some ⟨g,0,none⟩) n 128,x]).run Tryz.prog w=.ok (.slice (some ⟨g,0,none⟩) (n+c.length) 128) w'/\Pad w' g (l++c)/\Sh.Only (fun b=>b=g) w w':=by
 obtain ⟨i,hi,hz,hsz,hby⟩:=info_parts info_u8
 subst hn
 have hl:(bts c).length=c.length:=bts_length c
 have hall:(bts (l++List.replicate (128-l.length) 0)).length=128:=by rw [bts_length,List.length_append,List.length_replicate];omega
 refine ⟨_,run_append_room_src w 24 tx ty 5 i Tryz.underlying24 hi g 0 l.length 128 x c.length (bts c) (by rw [hsz];exact hs) hfit (fun j hj=>?_) (fun j hj=>frozen_of_row _ _ _ _ _ h),?_,?_⟩
 ·rw [cell_of_row _ _ _ _ _ _ h,List.getElem?_toArray,hsz,List.getElem?_eq_getElem (by omega)]
  rfl
 ·rw [hsz]
  have h2:=setCells_heapP (bts c) (0+l.length*1) w _ h
  rw [setL_eq _ _ _ (by omega)] at h2
  have e:=splice_pad l (128-l.length) l.length c rfl (by omega)
  unfold splice at e
  rw [Nat.zero_add,Nat.mul_one] at h2
  unfold Pad
  rw [<- List.append_assoc] at e
  rw [Nat.zero_add,Nat.mul_one]
  refine h2.trans ?_
  rw [List.length_append,<- Nat.sub_sub,<- e]
 ·rw [hsz]
  exact only_setCells g _ _ w
theorem append_pad {ops:Array Oper} {rest:List Oper} {o:Oper} {a:Act} {Q:Exit->Act->World->Prop} {w:World} (hgd:o.guard=none) (s x:Operand) (tx:TypeId)
  (ho:o.op=.call { callee:=.builtin .append,args:=#[s,x],argTypes:=#[24,tx] })
  {g n:Nat} {l c:List Nat} (h:Pad w g l) {xv:Value} (hsv:a.eval s=.slice (some ⟨g,0,none⟩) n 128) (hx:a.eval x=xv) (hs:Src Tryz.prog 1 tx xv c.length (bts c) w) (hn:l.length=n) (hfit:n+c.length<=128)
  (hk:∀w',Pad w' g (l++c)->Sh.Only (fun b=>b=g) w w'->wpList Tryz.prog ops Q rest (a.put o.dst (.slice (some ⟨g,0,none⟩) (n+c.length) 128)) w'):wpList Tryz.prog ops Q (o :: rest) a w:=by
 refine wpList_plain hgd fun K hK=>?_
 obtain ⟨w',hr,h2,h3⟩:=run_append_pad h tx o.type xv hs hn hfit
 unfold Oper.wp execOp
 simp only [ho,resolve,invoke,builtin,Sem.run_bind,Sem.run_pure,Result.andThen_ok,List.map_toArray,List.map_cons,List.map_nil,hsv,hx,hr]
 exact hK _ _ (hk w' h2 h3)
theorem src_own {w:World} {B n:Nat} {v:Value} {l:List Nat} (h:w.ownsRow B 5 1 v n (bts l)) (h0:0<n):∃ad cc,v=.slice (some ad) n cc/\Src Tryz.prog 1 24 (.slice (some ad) n cc) n (bts l) w:=by
 obtain ⟨A,c,rfl,hr,_,_⟩:=own_shape h
 obtain ⟨ad,rfl,_,hc⟩:=hr.2 h0
 exact ⟨ad,c,rfl,Src.ofSlice w Tryz.underlying24 ad n c _ (by rw [hr.1,Nat.mul_one]) hc (bts_one l)⟩
def cntL:List Nat:=[1024,15,4294967296]
structure Flds (w:World):Prop where
 at_:∀i,i<3->w.cell? ⟨4,i*2,none⟩=some (.int .i64 ((4+i*4:Nat):Int))
 cnt:∀i,i<3->w.cell? ⟨4,i*2+1,none⟩=some (.int .u64 ((cntL.getD i 0:Nat):Int))
theorem Flds.size {w:World} (h:Flds w):4+1<=w.heap.size:=World.block_lt_of_cell? w _ (h.at_ 0 (by decide))
theorem Flds.below {w w':World} {B:Nat} (h:Flds w) (hB:4+1<=B) (hb:Below B w w'):Flds w' :=
 ⟨fun i hi=>(hb.cell (p:=⟨4,i*2,none⟩) hB).trans (h.at_ i hi),fun i hi=>(hb.cell (p:=⟨4,i*2+1,none⟩) hB).trans (h.cnt i hi)⟩
theorem info_numbers:(Tryz.prog.info? 314).map (·.size)=some 3:=by kernel_rfl
theorem cells3_of {w:World} {g:Nat} {t:TypeId} {v0 v1 v2:Value} (h:w.heap[g]?=some (.cells #[v0,v1,v2] t (0,0))) :
  w.cell? ⟨g,0,none⟩=some v0/\w.cell? ⟨g,1,none⟩=some v1/\w.cell? ⟨g,2,none⟩=some v2/\∀i,w.frozen? ⟨g,i,none⟩=false :=
 ⟨cell_of_row _ _ 0 _ _ _ h,cell_of_row _ _ 1 _ _ _ h,cell_of_row _ _ 2 _ _ _ h,fun _=>frozen_of_row _ _ _ _ _ h⟩
theorem results_cell {fn:Func} {a:Tmp} {t:TypeId} {P:Program} {w:World} {v:Value} {tmps:Array Value} {g:Nat} (h:fn.results=#[.cell a t])
  (hp:tmps.getD a undef=.pointer (some ⟨g,0,none⟩)) (hl:(loadVar t ⟨g,0,none⟩).run P w=.ok v w):(results fn tmps).run P w=.ok v w:=by
 rw [Array.getD_eq_getD_getElem?] at hp
 simp [results,h,hp,asAddr,hl]
def numsV (s p:Int) (l:List Nat):Array Value:=#[.int .u64 (IntKind.u64.wrap s),.int .u64 (IntKind.u64.wrap p),.int .u64 ((Nums.sum 0 l:Nat):Int)]
set_option maxRecDepth 20000 in
set_option maxHeartbeats 1000000 in
theorem numbersOf_any (s p:Int) (A:Option Addr) (n c:Nat) (l:List Nat) (w:World) (hl:Small l) (hr:Reads w w.heap.size A n (bts l)) (hn:n<=maxLen) (hT:Tabs w) :
  Calls Tryz.prog 281 #[.agg #[.int .i64 s,.int .i64 p,.slice A n c]] w fun e w'=>e=.returned (.agg (numsV s p l))/\Below w.heap.size w w':=by
 unfold numsV
 have hx:IntKind.u64.wrap ((Nums.sum 0 l:Nat):Int)=((Nums.sum 0 l:Nat):Int):=by
  have:=Nums.sum_lt hl (s:=0) (by decide)
  generalize Nums.sum 0 l=z at *
  rw [IntKind.wrap_u64];omega
 have HR:=hid (fun W' (h:Below w.heap.size w W')=>hr.below h)
 have HT:=hid (fun W' (h:Below w.heap.size w W')=>hT.below hT.size h)
 clear hr hT
 obtain ⟨q0,q1,hz0,hB0⟩:=two_new' w #[.int .i64 s,.int .i64 p,.slice A n c] #[.int .u64 0,.int .u64 0,.int .u64 0] 240 314
 go_enter Tryz.func281,Tryz.ntmps281
 go_wp2_with fail
 generalize (w.alloc (.cells #[.int .i64 s,.int .i64 p,.slice A n c] 240)).alloc (.cells #[.int .u64 0,.int .u64 0,.int .u64 0] 314)=W0 at *
 have Q0:=hid (fun W' (h:Below (w.heap.size+1) W0 W')=>(h.block w.heap.size (by omega)).trans q0)
 have Q1:=hid q1
 have HB0:=hid hB0
 have HZ:=hid hz0
 clear q0 q1 hB0 hz0
 have k0:=fun W' (h:Below (w.heap.size+1) W0 W')=>(cells3_of (Q0.out W' h)).1
 have k1:=fun W' (h:Below (w.heap.size+1) W0 W')=>(cells3_of (Q0.out W' h)).2.1
 have k2:=fun W' (h:Below (w.heap.size+1) W0 W')=>(cells3_of (Q0.out W' h)).2.2.1
 have HU:=hid (fun W' (h:Below (w.heap.size+1) W0 W')=>HB0.out.trans (h.mono (Nat.le_succ _)))
 refine wp_region_held_drew (S:=fun (W':World)=>Below (w.heap.size+1) W0 W') (by kernel_rfl) ((Below.refl _ _).drew) (fun hHeld=>?_)
 refine tk 0 3 ?_
 refine tk 1 4 ?_
 refine tk 2 5 ?_
 refine tk 3 6 ?_
 refine tk 4 7 ?_
 refine tk 5 8 ?_
 refine tk 6 9 ?_
 refine tk 7 10 ?_
 refine r1 8 (some 11) fun K hK=>?_
 go_simp
 refine (crc_any A n c w.heap.size l 0 _ (by decide) hl (HR.out _ (HU.out _ hHeld)) hn (HT.out _ (HU.out _ hHeld))).mono ?_
 rintro e w3 ⟨rfl,m,rfl⟩
 refine hK.out _ _ (hHeld.trans (drawn (Below.refl _ _) m)) (fun hHeld=>?_)
 clear hK K
 try simp only [Act.put,List.setIfInBounds_toArray,List.set_cons_zero,List.set_cons_succ]
 have B4:=hid hHeld
 refine tk 9 12 ?_
 refine tk 10 13 ?_
 refine r1 11 none fun K hK=>?_
 rw [if_pos (by rfl)]
 refine wp_store_row 314 _ _ rfl (w.heap.size+1) (#[.int .u64 (IntKind.u64.wrap s),.int .u64 (IntKind.u64.wrap p),.int .u64 ((Nums.sum 0 l:Nat):Int)]) rfl rfl 314 _ (show _ from Q1.out) info_numbers rfl (by simp [Value.oneCell']) ?_
 refine hK.out _ _ (below_setRow B4.out (Nat.le_refl _) _) (fun hHeld=>?_)
 clear hK K
 refine wpAnyH_done (by kernel_rfl) ?_ _
 have E5:=hid (run_loadVar_row (P:=Tryz.prog) _ (w.heap.size+1) 314 314 _ (0,0) _ (setRow_heap (W0.drew.drewN m) _ _ (#[.int .u64 (IntKind.u64.wrap s),.int .u64 (IntKind.u64.wrap p),.int .u64 ((Nums.sum 0 l:Nat):Int)]) _ _ (show _ from Q1.out)) Tryz.underlying314 rfl info_numbers)
 have E6:=hid (HU.out _ hHeld)
 go_wp2
 exact bodyPost_ret (results_cell (g:=w.heap.size+1) Tryz.results281 rfl E5.out) rfl ⟨rfl,E6.out⟩
def mayB (s p:Int) (n:Nat):Bool:=decide (n=128) && (decide (IntKind.u64.wrap s<1024) && decide (IntKind.u64.wrap p<15))
theorem mayB_iff {s p:Int} {n:Nat} (hs:-9223372036854775808<=s/\s<=9223372036854775807) (hp:-9223372036854775808<=p/\p<=9223372036854775807):mayB s p n=true↔n=128/\(0<=s/\s<=1023)/\0<=p/\p<=14:=by
 unfold mayB
 rw [IntKind.wrap_u64,IntKind.wrap_u64]
 simp only [Bool.and_eq_true,decide_eq_true_eq]
 omega
theorem mayBe_len (s p:Int) (A:Option Addr) (n c:Nat) (w:World) (hn:n≠128) (_hm:n<=maxLen) :
  Calls Tryz.prog 274 #[.agg #[.int .i64 s,.int .i64 p,.slice A n c]] w fun e w'=>e=.returned (.bool false)/\Below w.heap.size w w':=by
 have hq:((n:Int) != 128)=true:=by rw [bne_iff_ne];omega
 have hb:Below w.heap.size w (w.alloc (.cells #[.int .i64 s,.int .i64 p,.slice A n c] 240)):=(Below.refl _ _).alloc (Nat.le_refl _) _
 obtain ⟨k0,k1,k2,_⟩:=cells3_of (heap_alloc_new w (.cells #[.int .i64 s,.int .i64 p,.slice A n c] 240))
 go_enter Tryz.func274,Tryz.ntmps274
 go_wp2
 go_ret
 exact ⟨rfl,hb⟩
set_option maxRecDepth 20000 in
theorem mayBe_is (s p:Int) (A:Option Addr) (c:Nat) (l:List Nat) (w:World) (hl:Small l) (hr:Reads w w.heap.size A 128 (bts l)) (hT:Tabs w) (hF:Flds w) :
  Calls Tryz.prog 274 #[.agg #[.int .i64 s,.int .i64 p,.slice A 128 c]] w fun e w'=>e=.returned (.bool (mayB s p 128))/\Below w.heap.size w w':=by
 have HN:=hid (fun w' (h:Below w.heap.size w w')=>numbersOf_any s p A 128 c l w' hl ((hr.below h).more h.size) (by decide) (hT.below hT.size h))
 have HF:=hid (fun w' (h:Below w.heap.size w w')=>hF.below hF.size h)
 have HR:=hid (show mayB s p 128=(decide (IntKind.u64.wrap s<1024) && decide (IntKind.u64.wrap p<15)) from by unfold mayB;simp)
 have hz:Nums.sum 0 l<4294967296:=Nums.sum_lt hl (by decide)
 have ha:0<=IntKind.u64.wrap s/\IntKind.u64.wrap s<18446744073709551616:=by rw [IntKind.wrap_u64];omega
 have hb:0<=IntKind.u64.wrap p/\IntKind.u64.wrap p<18446744073709551616:=by rw [IntKind.wrap_u64];omega
 unfold numsV at HN
 generalize mayB s p 128=res at *
 generalize IntKind.u64.wrap s=a at *
 generalize IntKind.u64.wrap p=b at *
 generalize Nums.sum 0 l=z at *
 clear hl hr hT hF
 have hB0:Below w.heap.size w (w.alloc (.cells #[.int .i64 s,.int .i64 p,.slice A 128 c] 240)):=(Below.refl _ _).alloc (Nat.le_refl _) _
 obtain ⟨k0,k1,k2,_⟩:=cells3_of (heap_alloc_new w (.cells #[.int .i64 s,.int .i64 p,.slice A 128 c] 240))
 have hz0:w.heap.size<=(w.alloc (.cells #[.int .i64 s,.int .i64 p,.slice A 128 c] 240)).heap.size:=by simp
 go_enter Tryz.func274,Tryz.ntmps274
 go_wp2_with fail
 generalize w.alloc (.cells #[.int .i64 s,.int .i64 p,.slice A 128 c] 240)=W0 at *
 refine (HN.out W0 hB0).mono ?_
 rintro e w1 ⟨rfl,b1⟩
 have hB1:=hB0.trans (b1.mono hz0)
 have F1:=HF.out w1 hB1
 have f0:=F1.cnt 0 (by decide)
 have f1:=F1.cnt 1 (by decide)
 have f2:=F1.cnt 2 (by decide)
 simp only [cntL,List.getD_cons_zero,List.getD_cons_succ] at f0 f1 f2
 generalize (4294967296:Nat)=M at f2 hz
 have HB1:=hid hB1
 clear k0 k1 k2 b1 hB0 hB1 F1 hz0 HF
 have i0:∀w,(Instr.index 314 (.agg #[.int .u64 a,.int .u64 b,.int .u64 (z:Int)]) (.int .i64 0)).run Tryz.prog w=.ok (.int .u64 a) w:=fun _=>by kernel_rfl
 have i1:∀w,(Instr.index 314 (.agg #[.int .u64 a,.int .u64 b,.int .u64 (z:Int)]) (.int .i64 1)).run Tryz.prog w=.ok (.int .u64 b) w:=fun _=>by kernel_rfl
 have i2:∀w,(Instr.index 314 (.agg #[.int .u64 a,.int .u64 b,.int .u64 (z:Int)]) (.int .i64 2)).run Tryz.prog w=.ok (.int .u64 (z:Int)) w:=fun _=>by kernel_rfl
 go_wp2_with fail
 go_loop [11] (fun i=>∃k:Nat,k<=3/\i=.int .i64 k/\Aside (0<k->a<1024)/\Aside (1<k->b<15)) (fun i=>3-(intOf i).toNat)
 case atStart=>exact ⟨0,by omega,rfl,fun h=>absurd h (by omega),fun h=>absurd h (by omega)⟩
 case round =>
  obtain ⟨k,hk,rfl,h0,h1⟩:=hrel
  obtain rfl | rfl | rfl | rfl:k=0\/k=1\/k=2\/k=3:=by omega
  ·by_cases h:a<1024
   ·go_wp2_with fail
    go_round
    case rel=>exact ⟨1,by omega,rfl,fun _=>h,fun h=>absurd h (by omega)⟩
    case measure=>simp [intOf]
   ·have hx:=hid (show res=false by rw [HR.out,decide_eq_false h];rfl)
    go_wp2_with fail
    go_ret
    exact ⟨by rw [hx.out];rfl,HB1.out⟩
  ·have h2:=hid (h0.out (by omega))
   by_cases h:b<15
   ·go_wp2_with fail
    go_round
    case rel=>exact ⟨2,by omega,rfl,fun _=>h2.out,fun _=>h⟩
    case measure=>simp [intOf]
   ·have hx:=hid (show res=false by rw [HR.out,decide_eq_false h,Bool.and_false])
    go_wp2_with fail
    go_ret
    exact ⟨by rw [hx.out];rfl,HB1.out⟩
  ·have h2:=hid (h0.out (by omega))
   have h3:=hid (h1.out (by omega))
   clear h0 h1
   go_wp2_with fail
   go_round
   case rel=>exact ⟨3,by omega,rfl,fun _=>h2.out,fun _=>h3.out⟩
   case measure=>simp [intOf]
  ·have h2:=hid (h0.out (by omega))
   have h3:=hid (h1.out (by omega))
   clear h0 h1
   have hx:=hid (show res=true by rw [HR.out,decide_eq_true h2.out,decide_eq_true h3.out];rfl)
   go_wp2_with fail
   go_ret
   exact ⟨by rw [hx.out];rfl,HB1.out⟩
theorem only_row_below' {B g:Nat} {w w' w'':World} (h:Below B w w') (k:Sh.Only (fun b=>b=g) w' w'') (hg:B<=g) (hB:B<=w.heap.size):Below B w w'' :=
 h.trans (k.below (fun b e=>by omega) (Nat.le_trans hB h.size))
set_option maxRecDepth 20000 in
theorem appendNumber_any {w:World} {g n x:Nat} {l:List Nat} (h:Pad w g l) (hn:l.length=n) (hfit:n+4<=128) (hx:x<2 ^ (8*4)) :
  Calls Tryz.prog 282 #[.slice (some ⟨g,0,none⟩) n 128,.int .u64 (x:Int)] w fun e w'=>e=.returned (.slice (some ⟨g,0,none⟩) (n+4) 128)/\Pad w' g (l++putL x 4)/\Sh.Only (fun b=>b=g) w w':=by
 have hp:=hid (put_ok x 4 · (by decide) (by decide) hx)
 have hc4:=putL_length x 4
 have HC:=hid hc4
 have HN:=hid hn
 have HP:=hid h
 clear hc4 hn h hx
 generalize putL x 4=c at *
 go_enter Tryz.func282,Tryz.ntmps282
 go_wp2_with fail
 refine (hp.out _).mono ?_
 rintro e w1 ⟨v,rfl,hown,hb⟩
 rw [HC.out] at hown
 obtain ⟨ad,cc,rfl,hsrc⟩:=src_own hown (by decide)
 have h1:=HP.out.same (hb.block g HP.out.lt)
 have hO:=Sh.Only.of_below (F:=fun b=>b=g) hb (fun b h1 h2=>absurd h2 (by omega))
 clear hown hb
 go_wp2_with (refine append_pad rfl _ _ 24 rfl h1 rfl rfl (by rw [HC.out];exact hsrc) HN.out (by rw [HC.out];exact hfit) ?_;intro w2 h2 hO2)
 go_ret
 exact ⟨by rw [HC.out];rfl,h2,hO.trans hO2 (fun _ h=>.inl h)⟩
theorem pad_zero {w:World}:Pad (w.alloc (.cells (madeCells (Value.int .u8 0).cells 128) 5)) w.heap.size []:=by
 refine (heap_alloc_new w _).trans ?_
 have e:madeCells (Value.int .u8 0).cells 128=(bts ([]++List.replicate (128-([]:List Nat).length) 0)).toArray:=by
  have h1:(madeCells (Value.int .u8 0).cells 128).toList=List.replicate 128 (.int .u8 0):=toList_madeCells_one _ _
  rw [<- Array.toArray_toList (xs:=madeCells (Value.int .u8 0).cells 128),h1]
  simp [bts]
 rw [e]
theorem make_pad {ops:Array Oper} {rest:List Oper} {o:Oper} {a:Act} {Q:Exit->Act->World->Prop} {w:World} (hgd:o.guard=none) (l c:Operand) (hop:o.op=Op.makeSlice 24 l c)
  (hl:a.eval l=.int .i64 0) (hc:a.eval c=.int .i64 128)
  (hK:∀w',Pad w' w.heap.size []->Below w.heap.size w w'->wpList Tryz.prog ops Q rest (a.put o.dst (.slice (some ⟨w.heap.size,0,none⟩) 0 128)) w'):wpList Tryz.prog ops Q (o :: rest) a w:=by
 obtain ⟨i,hi,hz,hsz,hby⟩:=info_parts info_u8
 refine wpList_plain hgd fun K hK'=>?_
 have hrun:=run_make (P:=Tryz.prog) w 24 5 i (.int .u8 0) Tryz.underlying24 hi hz .i64 .i64 0 128 (by decide) (by decide) (by rw [hby];decide) (by decide)
 rw [hsz] at hrun
 unfold Oper.wp
 simp only [execOp,hop,hl,hc,Sem.run_bind,hrun,Result.andThen_ok]
 exact hK' _ _ (hK _ pad_zero ((Below.refl _ _).alloc (Nat.le_refl _) _))
def numF (a b z:Nat):Nat->Nat
 | 0=>a
 | 1=>b
 | _=>z
def Fresh (w:World) (l:List Nat) (v:Value) (w':World):Prop:=∃g,v=.slice (some ⟨g,0,none⟩) 128 128/\w.heap.size<=g/\w'.heap[g]?=some (.cells (bts l).toArray 5 (0,0))/\Below w.heap.size w w'
theorem Pad.more {w:World} {g:Nat} {l:List Nat} (h:Pad w g l) (k:Nat) (hk:l.length+k<=128):Pad w g (l++List.replicate k 0):=by
 unfold Pad at *
 rw [h,List.append_assoc,List.replicate_append_replicate,List.length_append,List.length_replicate]
 congr 6
 omega
theorem Pad.full {w:World} {g:Nat} {l:List Nat} (h:Pad w g l) (hl:l.length=128):w.heap[g]?=some (.cells (bts l).toArray 5 (0,0)):=by
 unfold Pad at h
 rw [hl] at h
 simpa using h
theorem Pad.reads {w:World} {g:Nat} {l:List Nat} (h:Pad w g l):Reads w w.heap.size (some ⟨g,0,none⟩) l.length (bts l):=by
 refine ⟨bts_length l,fun _=>⟨_,rfl,h.lt,fun j u hu=>?_⟩⟩
 have e:(⟨g,0,none⟩:Addr).add j=⟨g,j,none⟩:=by unfold Addr.add;split<;>simp_all
 have hj:j<(bts l).length:=by
  rcases Nat.lt_or_ge j (bts l).length with h | h
  ·exact h
  ·rw [List.getElem?_eq_none h] at hu;cases hu
 rw [e,cell_of_row _ _ j _ _ _ h,List.getElem?_toArray,bts_append,List.getElem?_append_left hj]
 exact hu
theorem src_sign {w:World}:Src Tryz.prog 1 9 (.string ⟨#[80,65,82,84]⟩) signL.length (bts signL) w:=Src.ofString w Tryz.underlying9 ⟨#[80,65,82,84]⟩
set_option maxRecDepth 20000 in
set_option maxHeartbeats 1000000 in
theorem headOf_any (a b:Nat) (ha:a<1024) (hb:b<15) (A:Option Addr) (c:Nat) (l:List Nat) (w:World) (hl:Small l) (hr:Reads w w.heap.size A 128 (bts l)) (hT:Tabs w) (hF:Flds w) :
  Calls Tryz.prog 275 #[.agg #[.int .i64 a,.int .i64 b,.slice A 128 c]] w fun e w'=>∃v,e=.returned v/\Fresh w (headL (numF a b (Nums.sum 0 l))) v w':=by
 have HN:=hid (fun w' (h:Below w.heap.size w w')=>numbersOf_any a b A 128 c l w' hl ((hr.below h).more h.size) (by decide) (hT.below hT.size h))
 have HF:=hid (fun w' (h:Below w.heap.size w w')=>hF.below hF.size h)
 have HT:=hid (fun w' (h:Below w.heap.size w w')=>hT.below hT.size h)
 have hz:Nums.sum 0 l<4294967296:=Nums.sum_lt hl (by decide)
 have wa:IntKind.u64.wrap (a:Int)=a:=by rw [IntKind.wrap_u64];omega
 have wb:IntKind.u64.wrap (b:Int)=b:=by rw [IntKind.wrap_u64];omega
 unfold numsV at HN
 rw [wa,wb] at HN
 generalize Nums.sum 0 l=z at *
 clear hl hr hT hF wa wb
 have hB0:Below w.heap.size w (w.alloc (.cells #[.int .i64 (a:Int),.int .i64 (b:Int),.slice A 128 c] 240)):=(Below.refl _ _).alloc (Nat.le_refl _) _
 have q0:=heap_alloc_new w (.cells #[.int .i64 (a:Int),.int .i64 (b:Int),.slice A 128 c] 240)
 have hz0:w.heap.size<(w.alloc (.cells #[.int .i64 (a:Int),.int .i64 (b:Int),.slice A 128 c] 240)).heap.size:=by simp
 have hsz:(w.alloc (.cells #[.int .i64 (a:Int),.int .i64 (b:Int),.slice A 128 c] 240)).heap.size=w.heap.size+1:=by simp
 have HSZ:=hid hsz
 clear hsz
 go_enter Tryz.func275,Tryz.ntmps275
 go_wp2_with (first
  | (at_make;refine make_pad rfl _ _ rfl rfl rfl ?_;intro w1 p1 b1)
  | (refine append_pad (c:=signL) rfl _ _ 9 rfl p1 rfl rfl src_sign rfl (by decide) ?_;intro w2 p2 o2;have q2:=(o2.block w.heap.size (Nat.lt_of_lt_of_le hz0 b1.size) (Nat.ne_of_lt hz0)).trans ((b1.block w.heap.size hz0).trans q0);obtain ⟨k0,k1,k2,_⟩:=cells3_of q2))
 generalize w.alloc (.cells #[.int .i64 (a:Int),.int .i64 (b:Int),.slice A 128 c] 240)=W0 at *
 have hB2:=only_row_below' (hB0.trans (b1.mono (Nat.le_of_lt hz0))) o2 (Nat.le_of_lt hz0) (Nat.le_refl _)
 have hs2:w.heap.size<w2.heap.size:=Nat.lt_of_lt_of_le hz0 (Nat.le_trans b1.size o2.size)
 have hg2:=p2.lt
 have hgl:=hid (Nat.le_of_lt hz0)
 rw [show []++signL=preK (numF a b z) 0 from rfl] at p2
 clear q0 hz0 hB0 p1 b1 o2 q2
 rw [HSZ.out] at hg2 p2 hgl
 clear HSZ
 generalize w.heap.size+1=g at *
 refine (HN.out w2 hB2).mono ?_
 rintro e w3 ⟨rfl,b3⟩
 have p3:=p2.same (b3.block g hg2)
 have hB3:=hB2.trans (b3.mono (Nat.le_of_lt hs2))
 clear k0 k1 k2 p2 hB2 hg2 hs2 b3 HN
 have i0:∀w,(Instr.index 314 (.agg #[.int .u64 (a:Int),.int .u64 (b:Int),.int .u64 (z:Int)]) (.int .i64 0)).run Tryz.prog w=.ok (.int .u64 (a:Int)) w:=fun _=>by kernel_rfl
 have i1:∀w,(Instr.index 314 (.agg #[.int .u64 (a:Int),.int .u64 (b:Int),.int .u64 (z:Int)]) (.int .i64 1)).run Tryz.prog w=.ok (.int .u64 (b:Int)) w:=fun _=>by kernel_rfl
 have i2:∀w,(Instr.index 314 (.agg #[.int .u64 (a:Int),.int .u64 (b:Int),.int .u64 (z:Int)]) (.int .i64 2)).run Tryz.prog w=.ok (.int .u64 (z:Int)) w:=fun _=>by kernel_rfl
 have HA:=hid (show a<2 ^ (8*4) by show a<4294967296;omega)
 have HB:=hid (show b<2 ^ (8*4) by show b<4294967296;omega)
 have HZ:=hid (show z<2 ^ (8*4) from hz)
 have HL:=hid (preK_length (numF a b z))
 clear ha hb hz
 go_wp2_with fail
 go_loopw [3,10] (fun s3 i wr=>∃k:Nat,k<=3/\i=.int .i64 k/\s3=.slice (some ⟨g,0,none⟩) (4+k*4) 128/\Pad wr g (preK (numF a b z) k)/\Below w.heap.size w wr) (fun _ i _=>3-(intOf i).toNat)
 case atStart=>exact ⟨0,by omega,rfl,rfl,p3,hB3⟩
 case round =>
  obtain ⟨k,hk,rfl,rfl,pr,hBr⟩:=hrel
  have fr:=(HF.out wr hBr).at_
  clear p3 hB3
  obtain rfl | rfl | rfl | rfl:k=0\/k=1\/k=2\/k=3:=by omega
  ·have f0:=fr 0 (by decide)
   clear fr
   go_wp2_with fail
   refine (appendNumber_any pr (HL.out 0) (by decide) HA.out).mono ?_
   rintro e w4 ⟨rfl,p4,o4⟩
   have hB4:=only_row_below' hBr o4 hgl.out (Nat.le_refl _)
   clear hBr o4 pr
   go_wp2_with fail
   go_roundw
   case rel=>exact ⟨1,by omega,rfl,rfl,p4,hB4⟩
   case measure=>simp [intOf]
  ·have f0:=fr 1 (by decide)
   clear fr
   go_wp2_with fail
   refine (appendNumber_any pr (HL.out 1) (by decide) HB.out).mono ?_
   rintro e w4 ⟨rfl,p4,o4⟩
   have hB4:=only_row_below' hBr o4 hgl.out (Nat.le_refl _)
   clear hBr o4 pr
   go_wp2_with fail
   go_roundw
   case rel=>exact ⟨2,by omega,rfl,rfl,p4,hB4⟩
   case measure=>simp [intOf]
  ·have f0:=fr 2 (by decide)
   clear fr
   go_wp2_with fail
   refine (appendNumber_any pr (HL.out 2) (by decide) HZ.out).mono ?_
   rintro e w4 ⟨rfl,p4,o4⟩
   have hB4:=only_row_below' hBr o4 hgl.out (Nat.le_refl _)
   clear hBr o4 pr
   go_wp2_with fail
   go_roundw
   case rel=>exact ⟨3,by omega,rfl,rfl,p4,hB4⟩
   case measure=>simp [intOf]
  ·clear fr
   have p5:Pad wr g (bodyL (numF a b z)):=pr.more 108 (by rw [HL.out];decide)
   have hT5:=HT.out wr hBr
   have hr5:=p5.reads
   rw [bodyL_length] at hr5
   have hln:=hid (bodyL_length (numF a b z))
   have hsm:=hid (bodyL_small (numF a b z))
   have hlt:=hid (body_sum_lt (numF a b z))
   have hhl:=hid (show headL (numF a b z)=bodyL (numF a b z)++putL (Nums.sum 0 (bodyL (numF a b z))) 4 from rfl)
   have hh8:=hid (headL_length (numF a b z))
   have wz:IntKind.u64.wrap ((Nums.sum 0 (bodyL (numF a b z)):Nat):Int)=((Nums.sum 0 (bodyL (numF a b z)):Nat):Int):=by
    have:=hlt.out
    generalize Nums.sum 0 (bodyL (numF a b z))=y at *
    rw [IntKind.wrap_u64];omega
   clear pr HL
   generalize hq:headL (numF a b z)=hL at *
   have HQ:=hid hq
   clear hq
   generalize bodyL (numF a b z)=bL at *
   go_wp2_with fail
   refine (crc_any (some ⟨g,0,none⟩) 124 128 wr.heap.size bL 0 wr (by decide) hsm.out hr5 (by decide) hT5).mono ?_
   rintro e w4 ⟨rfl,m,rfl⟩
   have p6:Pad (wr.drewN m) g bL:=p5
   have hB6:=drawn hBr m
   clear p5 hT5 hr5 hBr
   generalize Nums.sum 0 bL=y at *
   go_wp2_with fail
   refine (appendNumber_any p6 hln.out (by decide) hlt.out).mono ?_
   rintro e w5 ⟨rfl,p7,o7⟩
   have hB7:=only_row_below' hB6 o7 hgl.out (Nat.le_refl _)
   rw [<- hhl.out] at p7
   have r7:=p7.full hh8.out
   clear p6 hB6 p7 o7
   go_wp2_with fail
   go_ret
   exact ⟨_,rfl,g,rfl,hgl.out,by rw [HQ.out];exact r7,hB7⟩
theorem mayBe_any (s p:Int) (A:Option Addr) (n c:Nat) (l:List Nat) (w:World) (hl:Small l) (hr:Reads w w.heap.size A n (bts l)) (hn:n<=maxLen) (hT:Tabs w) (hF:Flds w) :
  Calls Tryz.prog 274 #[.agg #[.int .i64 s,.int .i64 p,.slice A n c]] w fun e w'=>e=.returned (.bool (mayB s p n))/\Below w.heap.size w w':=by
 by_cases h:n=128
 ·subst h
  exact mayBe_is s p A c l w hl hr hT hF
 ·have e:mayB s p n=false:=by unfold mayB;rw [decide_eq_false h];rfl
  rw [e]
  exact mayBe_len s p A n c w h hn
section
variable (s p:Int) (A:Option Addr) (n c:Nat) (l:List Nat) (w:World)
end
theorem encode_ok (a b:Nat) (ha:a<1024) (hb:b<15) (A:Option Addr) (c:Nat) (l:List Nat) (w:World) (hl:Small l) (hr:Reads w w.heap.size A 128 (bts l)) (hT:Tabs w) (hF:Flds w) :
  Calls Tryz.prog 264 #[.agg #[.int .i64 a,.int .i64 b,.slice A 128 c]] w fun e w'=>∃v,e=.returned (.tuple #[v,.int .i64 0])/\Fresh w (headL (numF a b (Nums.sum 0 l))) v w':=by
 have HM:=hid (fun w' (h:Below w.heap.size w w')=>mayBe_any a b A 128 c l w' hl ((hr.below h).more h.size) (by decide) (hT.below hT.size h) (hF.below hF.size h))
 have HH:=hid (fun w' (h:Below w.heap.size w w')=>headOf_any a b ha hb A c l w' hl ((hr.below h).more h.size) (hT.below hT.size h) (hF.below hF.size h))
 have hm:mayB (a:Int) (b:Int) 128=true:=(mayB_iff (by omega) (by omega)).2 ⟨rfl,by omega,by omega⟩
 rw [hm] at HM
 generalize headL (numF a b (Nums.sum 0 l))=hL at *
 clear hl hr hT hF hm
 have hB0:Below w.heap.size w (w.alloc (.cells #[.int .i64 (a:Int),.int .i64 (b:Int),.slice A 128 c] 240)):=(Below.refl _ _).alloc (Nat.le_refl _) _
 have q0:=heap_alloc_new w (.cells #[.int .i64 (a:Int),.int .i64 (b:Int),.slice A 128 c] 240)
 have hz0:w.heap.size<(w.alloc (.cells #[.int .i64 (a:Int),.int .i64 (b:Int),.slice A 128 c] 240)).heap.size:=by simp
 obtain ⟨k0,k1,k2,_⟩:=cells3_of q0
 go_enter Tryz.func264,Tryz.ntmps264
 go_wp2_with fail
 generalize w.alloc (.cells #[.int .i64 (a:Int),.int .i64 (b:Int),.slice A 128 c] 240)=W0 at *
 refine (HM.out W0 hB0).mono ?_
 rintro e w1 ⟨rfl,b1⟩
 have hB1:=hB0.trans (b1.mono (Nat.le_of_lt hz0))
 have q1:=(b1.block w.heap.size hz0).trans q0
 have hs1:=Nat.le_of_lt (Nat.lt_of_lt_of_le hz0 b1.size)
 clear k0 k1 k2 q0 b1 hB0 hz0
 obtain ⟨k0,k1,k2,_⟩:=cells3_of q1
 go_wp2_with fail
 refine (HH.out w1 hB1).mono ?_
 rintro e w2 ⟨v,rfl,g,rfl,hg,hrow,b2⟩
 have hB2:=hB1.trans (b2.mono hs1)
 clear b2 hB1 k0 k1 k2 q1
 go_wp2
 go_ret2
 exact ⟨_,rfl,g,rfl,Nat.le_trans hs1 hg,hrow,hB2⟩
def numAt (h:List Nat) (i:Nat):Nat:=if 4+i*4+4<=h.length then getN (cutAt h (4+i*4) 4) else 0
theorem numAt_lt {h:List Nat} (hs:Small h) (i:Nat):numAt h i<4294967296:=by
 unfold numAt
 split
 ·exact cutAt_lt hs _ 4
 ·decide
theorem strL_inj {l m:Sh.Bs} (hl:Small l) (hm:Small m) (h:Sh.strL l=Sh.strL m):l=m:=by
 have h1:=congrArg (fun s:ByteArray=>s.data.toList) h
 simp only [Sh.strL_data] at h1
 have h2:∀a:List Nat,Small a->(a.map fun x=>UInt8.ofNat x).map (fun (x:UInt8)=>x.toNat)=a:=by
  intro a ha
  rw [List.map_map]
  conv=>rhs;rw [<- List.map_id a]
  apply List.map_congr_left
  intro x hx
  have:=ha x hx
  simp [UInt8.toNat_ofNat',Nat.mod_eq_of_lt this]
 rw [<- h2 l hl,<- h2 m hm,h1]
theorem str_eq {l k:Sh.Bs} (hl:Small l) (hk:Small k):((Sh.strL k).toList == (Sh.strL l).toList)=decide (k=l):=by
 rw [ByteArray.toList_eq,ByteArray.toList_eq]
 by_cases h:k=l
 ·subst h;simp
 ·have h2:(Sh.strL k).data.toList≠(Sh.strL l).data.toList:=fun e=>h (strL_inj hk hl (by
   have e2:(Sh.strL k).data=(Sh.strL l).data:=Array.ext' e
   cases hA:Sh.strL k
   cases hB:Sh.strL l
   rw [hA,hB] at e2
   simp only at e2
   rw [e2]))
  rw [decide_eq_false h]
  exact beq_eq_false_iff_ne.2 h2
theorem equal_any (A B:Option Addr) (n c m d:Nat) (l k:List Nat) (w:World) (hl:Small l) (hk:Small k) (hr:Reads w w.heap.size A n (bts l)) (hq:Reads w w.heap.size B m (bts k)) :
  Calls Tryz.prog 66 #[.slice A n c,.slice B m d] w fun e w'=>e=.returned (.bool (decide (l=k)))/\w=w':=by
 have h1:=Sh.run_str c hr
 have h2:=Sh.run_str d hq
 have he:=str_eq hk hl
 have HE:=hid he
 clear he hr hq
 generalize Sh.strL l=s at *
 generalize Sh.strL k=t at *
 go_enter Tryz.func66,Tryz.ntmps66
 go_wp2
 go_ret
 exact ⟨by rw [<- HE.out];rfl,rfl⟩
set_option maxRecDepth 20000 in
theorem clone_any (ad:Addr) (c:Nat) (l:List Nat) (w:World) (hr:Reads w w.heap.size (some ad) 128 (bts l)) :
  Calls Tryz.prog 213 #[.slice (some ad) 128 c] w fun e w'=>∃v,e=.returned v/\w'.ownsRow w.heap.size 5 1 v 128 (bts l)/\Below w.heap.size w w':=by
 obtain ⟨i0,hi,hz0,hz1,hz2⟩:=info_parts info_u8
 have q22:∀(w:World) (a:Option Addr) (n c n' c':Nat),(binOp .eql 24 (.slice a n c) (.slice none n' c')).run Tryz.prog w=.ok (.bool a.isNone) w:=fun w a n c n' c'=>Lib.run_eql_slice_nil w _ _ a n c n' c' Tryz.underlying24
 have hl:=hr.1
 obtain ⟨_,e0,hlt,hc⟩:=hr.2 (by decide)
 injection e0 with e0
 subst e0
 have A:Aside (∀j u,(bts l)[j]?=some u->w.cell? (ad.add j)=some u):=hc
 clear hc hr
 go_enter Tryz.func213,Tryz.ntmps213
 go_wp2_with (at_builtin;refine wpList_append_own _ rfl _ _ 24 rfl w.heap.size 5 i0 (.int .u8 0) 1 1 Tryz.underlying24 hi hz0 hz1 hz2 rfl (by decide) _ _ _ rfl (World.ownsRow_made w #[] 0 (Nat.le_refl _) (Nat.zero_le _) rfl) ad 128 c (bts l) rfl ?qc1 ?qc2 ?qc3 ?qc4 ?qc5 ?qc6 ?_)
 case qc1=>simpa using hl
 case qc2 =>
  intro j u hj
  rw [World.cell?_alloc_lt _ _ _ (by rw [block_of_add];exact hlt)]
  exact A.out j u hj
 case qc3=>exact bts_one l
 case qc4=>decide
 case qc5=>decide
 case qc6=>simp
 intro v' w1 hown hgrow hnil
 go_wp2
 go_ret
 exact ⟨v',rfl,by simpa using hown,((Below.refl _ w).alloc (Nat.le_refl _) _).grown hgrow (by simp) (by intro k hk;simp [Value.ownBlock] at hk;omega)⟩
theorem cells_set {w:World} {b i:Nat} {c:Array Value} {t:TypeId} (v:Value) (h:w.heap[b]?=some (.cells c t (0,0))):(w.setCell ⟨b,i,none⟩ v).heap[b]?=some (.cells (c.setIfInBounds i v) t (0,0)):=heap_setCell_same w b i c t v h
def headOf (h l:List Nat):List Nat:=headL (numF (numAt h 0) (numAt h 1) (Nums.sum 0 l))
def okD (h l:List Nat) (n:Nat):Bool:=mayB (numAt h 0) (numAt h 1) n && decide (h=headOf h l)
theorem heap_alloc_last (w:World) (o:Obj):(w.alloc o).heap[w.heap.size]?=some o:=by
 show (w.heap.push o)[w.heap.size]?=some o
 simp
theorem add_plain (g o j:Nat):(⟨g,o,none⟩:Addr).add j=⟨g,o+j,none⟩:=by unfold Addr.add;split<;>simp_all
section
variable (A B:Option Addr) (m c n d:Nat) (h l:List Nat) (w:World)
end
def at' (k:Sh.Dk) (n:Nat):Sh.Bs:=k.sure.getD n []
theorem val_at {k:Sh.Dk} (h:k.waits=[]) (n:Nat):k.val n=at' k n:=by
 show Sh.latest k.waits n _=_
 rw [h];rfl
theorem at_settle_nil {k:Sh.Dk} (h:k.waits=[]) (kp:Nat->Bool) (n:Nat):at' (k.settle kp) n=at' k n:=by
 show (Sh.stl kp k.waits 0 k.sure).getD n []=_
 rw [h];rfl
theorem at_settle_one {k:Sh.Dk} {m:Nat} {b:Sh.Bs} (h:k.waits=[(m,b)]) (kp:Nat->Bool) (n:Nat) (hm:m<k.sure.length):at' (k.settle kp) n=if kp 0=true/\m=n then b else at' k n:=by
 show (Sh.stl kp k.waits 0 k.sure).getD n []=_
 rw [h]
 show (if kp 0 then k.sure.set m b else k.sure).getD n []=_
 by_cases hk:kp 0=true
 ·rw [if_pos hk]
  by_cases hmn:m=n
  ·subst hmn
   rw [if_pos ⟨hk,rfl⟩]
   generalize k.sure=u at *
   simp [List.getD,hm]
  ·rw [if_neg (fun e=>hmn e.2)]
   unfold at'
   simp [List.getD,List.getElem?_set_ne hmn]
 ·rw [if_neg (by simpa using hk),if_neg (fun e=>hk e.1)]
  rfl
def con (k:Sh.Dk):Nat->Sh.Bs:=fun j=>at' k (dataOf j)
def vals (k:Sh.Dk):Nat->Sh.Bs:=fun j=>k.val (dataOf j)
def upd (c:Nat->Sh.Bs) (i:Nat) (b:Sh.Bs):Nat->Sh.Bs:=fun j=>if j=i then b else c j
abbrev Cs:=(Nat->Sh.Bs)->Prop
def Safe (d nb:Nat) (k:Sh.Dk) (P:Cs):Prop:=∀kp:Nat->Bool,(∀j,j<nb->goodL d j (at' (k.settle kp) (sumOf j)) (at' (k.settle kp) (dataOf j))=true)/\P (con (k.settle kp))
structure Neat (d nb:Nat) (o:Int) (k:Sh.Dk) (P:Cs):Prop where
 secs:∀j,j<nb->(at' k (sumOf j)).length=128
 fits:∀j,j<nb->dataOf j<k.sure.length/\sumOf j<k.sure.length
 good:∀j,j<nb->goodL d j (at' k (sumOf j)) (at' k (dataOf j))=true
 may:P (con k)
 waits:k.waits=[]\/∃i b,i<nb/\o=(i:Int)/\k.waits=[(dataOf i,b)]/\(sumL d i b=pr (at' k (sumOf i)) i 0\/sumL d i b=pr (at' k (sumOf i)) i 1)/\P (upd (con k) i b)
section
variable {d nb:Nat} {o:Int} {k:Sh.Dk} {P:Cs}
theorem con_settle_one {i:Nat} {b:Sh.Bs} (h:k.waits=[(dataOf i,b)]) (kp:Nat->Bool) (hm:dataOf i<k.sure.length):con (k.settle kp)=if kp 0=true then upd (con k) i b else con k:=by
 funext j
 unfold con
 rw [at_settle_one h kp _ hm]
 by_cases hk:kp 0=true
 ·rw [if_pos hk]
  unfold upd
  by_cases hj:j=i
  ·subst hj
   rw [if_pos ⟨hk,rfl⟩,if_pos rfl]
  ·rw [if_neg (fun e=>hj (dataOf_inj e.2).symm),if_neg hj]
 ·rw [if_neg (fun e=>hk e.1),if_neg hk]
theorem con_settle_nil (h:k.waits=[]) (kp:Nat->Bool):con (k.settle kp)=con k:=by
 funext j
 exact at_settle_nil h kp _
theorem vals_nil (h:k.waits=[]):vals k=con k:=by
 funext j
 exact val_at h _
theorem vals_one {i:Nat} {b:Sh.Bs} (h:k.waits=[(dataOf i,b)]):vals k=upd (con k) i b:=by
 funext j
 show Sh.latest k.waits (dataOf j) (at' k (dataOf j))=_
 rw [h]
 show (if dataOf i=dataOf j then b else at' k (dataOf j))=_
 unfold upd
 by_cases hj:j=i
 ·subst hj;rw [if_pos rfl,if_pos rfl]
 ·rw [if_neg (fun e=>hj (dataOf_inj e).symm),if_neg hj];rfl
theorem Neat.safe (h:Neat d nb o k P):Safe d nb k P:=by
 intro kp
 rcases h.waits with hw | ⟨i,b,hi,_,hw,hs,hb⟩
 ·rw [con_settle_nil hw]
  refine ⟨fun j hj=>?_,h.may⟩
  rw [at_settle_nil hw,at_settle_nil hw];exact h.good j hj
 ·refine ⟨fun j hj=>?_,?_⟩
  ·rw [at_settle_one hw _ _ (h.fits i hi).1,at_settle_one hw _ _ (h.fits i hi).1]
   rw [if_neg (fun e=>data_ne_sum i j e.2)]
   by_cases hc:kp 0=true/\dataOf i=dataOf j
   ·rw [if_pos hc]
    obtain rfl:=dataOf_inj hc.2
    exact goodL_of hs
   ·rw [if_neg hc]
    exact h.good j hj
  ·rw [con_settle_one hw _ (h.fits i hi).1]
   split
   ·exact hb
   ·exact h.may
theorem Safe.more {P':Cs} (h:Safe d nb k P) (hm:∀c,P c->P' c):Safe d nb k P':=fun kp=>⟨(h kp).1,hm _ (h kp).2⟩
theorem Neat.more {P':Cs} (h:Neat d nb o k P) (hm:∀c,P c->P' c):Neat d nb o k P' :=
 ⟨h.secs,h.fits,h.good,hm _ h.may,h.waits.imp id fun ⟨i,b,h1,h2,h3,h4,h5⟩=>⟨i,b,h1,h2,h3,h4,hm _ h5⟩⟩
theorem Neat.now (h:Neat d nb o k P):P (vals k):=by
 rcases h.waits with hw | ⟨i,b,hi,_,hw,_,hb⟩
 ·rw [vals_nil hw];exact h.may
 ·rw [vals_one hw];exact hb
theorem Neat.con_flush (h:Neat d nb o k P):con (k.settle (fun _=>true))=vals k:=by
 rcases h.waits with hw | ⟨i,b,hi,_,hw,_,hb⟩
 ·rw [con_settle_nil hw,vals_nil hw]
 ·rw [con_settle_one hw _ (h.fits i hi).1,vals_one hw,if_pos rfl]
theorem Neat.flush (h:Neat d nb o k P) (o':Int):Neat d nb o' (k.settle (fun _=>true)) (fun c=>c=vals k)/\vals (k.settle (fun _=>true))=vals k/\(∀j,j<nb->(k.settle (fun _=>true)).val (sumOf j)=at' k (sumOf j))/\(k.settle (fun _=>true)).waits=[]:=by
 have hs:=h.safe (fun _=>true)
 have hlen:(k.settle (fun _=>true)).sure.length=k.sure.length:=Sh.stl_length _ _ _ _
 have hsum:∀j,j<nb->at' (k.settle (fun _=>true)) (sumOf j)=at' k (sumOf j):=by
  intro j hj
  rcases h.waits with hw | ⟨i,b,hi,_,hw,_,_⟩
  ·exact at_settle_nil hw _ _
  ·rw [at_settle_one hw _ _ (h.fits i hi).1,if_neg (fun e=>data_ne_sum i j e.2)]
 refine ⟨⟨fun j hj=>by rw [hsum j hj];exact h.secs j hj,fun j hj=>by rw [hlen];exact h.fits j hj,hs.1,h.con_flush,.inl rfl⟩,(vals_nil rfl).trans h.con_flush,fun j hj=>?_,rfl⟩
 rw [val_at (k:=k.settle (fun _=>true)) rfl]
 exact hsum j hj
theorem Neat.sums (h:Neat d nb o k P) (i:Nat) (hi:i<nb) (hno:k.waits=[]\/o≠(i:Int)) (sum:Nat) (hsm:Small (at' k (dataOf i))) :
  Safe d nb (k.write (sumOf i) (setPair (at' k (sumOf i)) i (sumL d i (at' k (dataOf i))) sum)) P /\
  Neat d nb (-1) ((k.write (sumOf i) (setPair (at' k (sumOf i)) i (sumL d i (at' k (dataOf i))) sum)).settle (fun _=>true)) (fun c=>c=vals k) /\
  vals ((k.write (sumOf i) (setPair (at' k (sumOf i)) i (sumL d i (at' k (dataOf i))) sum)).settle (fun _=>true))=vals k /\
  at' ((k.write (sumOf i) (setPair (at' k (sumOf i)) i (sumL d i (at' k (dataOf i))) sum)).settle (fun _=>true)) (sumOf i)=setPair (at' k (sumOf i)) i (sumL d i (at' k (dataOf i))) sum:=by
 have hs:=sumL_lt (d:=d) (k:=i) hsm
 have hl:=h.secs i hi
 -- what stands there,whatever is kept
 have key:∀kp:Nat->Bool,∃kq:Nat->Bool,∃q:Bool,(∀j,at' ((k.write (sumOf i) (setPair (at' k (sumOf i)) i (sumL d i (at' k (dataOf i))) sum)).settle kp) (dataOf j)=at' (k.settle kq) (dataOf j)) /\
   (∀j,j<nb->at' ((k.write (sumOf i) (setPair (at' k (sumOf i)) i (sumL d i (at' k (dataOf i))) sum)).settle kp) (sumOf j)=if q=true/\sumOf i=sumOf j then setPair (at' k (sumOf i)) i (sumL d i (at' k (dataOf i))) sum else at' (k.settle kq) (sumOf j))/\(kp=(fun _=>true)->kq=(fun _=>true)/\q=true):=by
  intro kp
  refine ⟨kp,kp k.waits.length,?_,?_,?_⟩
  ·intro j
   show (Sh.stl kp (k.waits++[(sumOf i,_)]) 0 k.sure).getD _ []=(Sh.stl kp k.waits 0 k.sure).getD _ []
   rw [Sh.stl_snoc]
   split
   ·simp only [List.getD,List.getElem?_set_ne (Ne.symm (data_ne_sum j i))]
   ·rfl
  ·intro j hj
   show (Sh.stl kp (k.waits++[(sumOf i,_)]) 0 k.sure).getD _ []=if _ then _ else (Sh.stl kp k.waits 0 k.sure).getD _ []
   rw [Sh.stl_snoc]
   have hlen:sumOf i<(Sh.stl kp k.waits 0 k.sure).length:=by rw [Sh.stl_length];exact (h.fits i hi).2
   generalize Sh.stl kp k.waits 0 k.sure=u at *
   by_cases hq:kp (0+k.waits.length)=true
   ·rw [if_pos hq]
    rw [Nat.zero_add] at hq
    by_cases hij:sumOf i=sumOf j
    ·rw [if_pos ⟨hq,hij⟩,<- hij]
     simp [List.getD,hlen]
    ·rw [if_neg (fun e=>hij e.2)]
     simp only [List.getD,List.getElem?_set_ne hij]
   ·rw [if_neg hq]
    rw [Nat.zero_add] at hq
    rw [if_neg (fun e=>hq e.1)]
  ·rintro rfl
   exact ⟨rfl,rfl⟩
 have hdata:∀kq:Nat->Bool,at' (k.settle kq) (dataOf i)=at' k (dataOf i):=by
  intro kq
  rcases h.waits with hw | ⟨i',b,hi',ho,hw,_,_⟩
  ·exact at_settle_nil hw _ _
  ·rcases hno with hn | hn
   ·rw [hn] at hw;cases hw
   ·rw [at_settle_one hw _ _ (h.fits i' hi').1,if_neg]
    rintro ⟨_,e⟩
    obtain rfl:=dataOf_inj e
    exact hn ho
 have hsafe:Safe d nb (k.write (sumOf i) (setPair (at' k (sumOf i)) i (sumL d i (at' k (dataOf i))) sum)) P:=by
  intro kp
  obtain ⟨kq,q,h1,h2,_⟩:=key kp
  obtain ⟨g1,g2⟩:=h.safe kq
  refine ⟨fun j hj=>?_,?_⟩
  ·rw [h1 j,h2 j hj]
   by_cases hc:q=true/\sumOf i=sumOf j
   ·rw [if_pos hc]
    have hsj:at' (k.settle kq) (sumOf j)=at' k (sumOf i):=by
     rw [<- hc.2]
     rcases h.waits with hw | ⟨i',b,hi',_,hw,_,_⟩
     ·exact at_settle_nil hw _ _
     ·rw [at_settle_one hw _ _ (h.fits i' hi').1,if_neg (fun e=>data_ne_sum i' i e.2)]
    by_cases hij:j=i
    ·subst hij
     rw [hdata kq]
     exact goodL_of (.inl (pr_set_0 hl hs).symm)
    ·rw [goodL_other hl (sumOf_eq hc.2.symm hij),<- hsj]
     exact g1 j hj
   ·rw [if_neg hc];exact g1 j hj
  ·have e:con ((k.write (sumOf i) (setPair (at' k (sumOf i)) i (sumL d i (at' k (dataOf i))) sum)).settle kp)=con (k.settle kq):=funext fun j=>h1 j
   rw [e];exact g2
 obtain ⟨kq,q,k1,k2,k3⟩:=key (fun _=>true)
 obtain ⟨rfl,rfl⟩:=k3 rfl
 have hcon:con ((k.write (sumOf i) (setPair (at' k (sumOf i)) i (sumL d i (at' k (dataOf i))) sum)).settle (fun _=>true))=vals k:=(funext fun j=>k1 j:_=con (k.settle (fun _=>true))).trans h.con_flush
 have hat:at' ((k.write (sumOf i) (setPair (at' k (sumOf i)) i (sumL d i (at' k (dataOf i))) sum)).settle (fun _=>true)) (sumOf i)=setPair (at' k (sumOf i)) i (sumL d i (at' k (dataOf i))) sum:=by
  rw [k2 i hi,if_pos ⟨rfl,rfl⟩]
 have hlen:((k.write (sumOf i) (setPair (at' k (sumOf i)) i (sumL d i (at' k (dataOf i))) sum)).settle (fun _=>true)).sure.length=k.sure.length:=Sh.stl_length _ _ _ _
 refine ⟨hsafe,⟨fun j hj=>?_,fun j hj=>by rw [hlen];exact h.fits j hj,fun j hj=>(hsafe (fun _=>true)).1 j hj,hcon,.inl rfl⟩,(vals_nil rfl).trans hcon,hat⟩
 rw [k2 j hj]
 split
 ·exact setPair_length hl
 ·have:=(h.flush 0).1.secs j hj
  exact this
theorem Neat.data {o':Int} (h:Neat d nb o k P) (hw:k.waits=[]) (i:Nat) (hi:i<nb) (b:Sh.Bs) (ho:o'=(i:Int)) (hs:sumL d i b=pr (at' k (sumOf i)) i 0\/sumL d i b=pr (at' k (sumOf i)) i 1) :
  Neat d nb o' (k.write (dataOf i) b) (fun c=>P c\/c=upd (vals k) i b)/\vals (k.write (dataOf i) b)=upd (vals k) i b:=by
 have hwt:(k.write (dataOf i) b).waits=[(dataOf i,b)]:=by show k.waits++[(dataOf i,b)]=_;rw [hw];rfl
 have hc:con (k.write (dataOf i) b)=con k:=rfl
 have hv:=vals_one hwt
 rw [hc,<- vals_nil hw] at hv
 refine ⟨⟨h.secs,h.fits,h.good,.inl h.may,.inr ⟨i,b,hi,ho,hwt,hs,.inr ?_⟩⟩,hv⟩
 rw [hc,vals_nil hw]
end
def dk (S:Sh.Sf) (d:Nat):Sh.Dk:=S.disks.getD d default
structure One (S:Sh.Sf) (d:Nat):Prop where
 lt:d<S.disks.length
 alive:(dk S d).dead=false
 len:(dk S d).sure.length=S.sectors
section
variable {S:Sh.Sf} {d:Nat}
theorem One.why (h:One S d):Sh.why S d=if S.off=true then 3 else 0:=by
 have:=h.alive
 unfold dk at this
 unfold Sh.why
 rw [this]
 rfl
theorem One.why0 (h:One S d):Sh.why S d=0↔S.off=false:=by
 rw [h.why]
 cases S.off<;>simp
theorem One.dk_wr (h:One S d) (n:Nat) (b:Sh.Bs) (hw:Sh.why S d=0):dk (Wr S d n b) d=(dk S d).write n b:=by
 have:=wr_getD S d n b h.lt hw d
 rwa [if_pos rfl] at this
theorem One.dk_fl (h:One S d) (hw:Sh.why S d=0):dk (Fl S d) d=(dk S d).settle (fun _=>true):=by
 have:=fl_getD S d h.lt hw d
 rwa [if_pos rfl] at this
theorem One.wr (h:One S d) (n:Nat) (b:Sh.Bs):One (Wr S d n b) d:=by
 by_cases hw:Sh.why S d=0
 ·exact ⟨by rw [wr_length];exact h.lt,by rw [h.dk_wr n b hw];exact h.alive,by rw [h.dk_wr n b hw,wr_sectors];exact h.len⟩
 ·rw [wr_why hw];exact h
theorem One.fl (h:One S d):One (Fl S d) d:=by
 by_cases hw:Sh.why S d=0
 ·exact ⟨by rw [fl_length];exact h.lt,by rw [h.dk_fl hw];exact h.alive,by rw [h.dk_fl hw,fl_sectors];exact (Sh.stl_length _ _ _ _).trans h.len⟩
 ·rw [fl_why hw];exact h
theorem dk_looked (S:Sh.Sf) (d e:Nat):dk (Looked S d) e=dk S e:=by unfold dk;rw [looked_disks]
theorem One.looked (h:One S d):One (Looked S d) d :=
 ⟨by rw [looked_disks];exact h.lt,by rw [dk_looked];exact h.alive,by rw [dk_looked,looked_sectors];exact h.len⟩
end
structure Jp (S:Sh.Sf) (d:Nat) (o:Int) (P:Cs):Prop where
 one:One S d
 safe:Safe d (blk S.sectors) (dk S d) P
 neat:S.off=false->Neat d (blk S.sectors) o (dk S d) P
section
variable {S S':Sh.Sf} {d:Nat} {o o':Int} {P P':Cs}
theorem Neat.any {nb:Nat} {k:Sh.Dk} (h:Neat d nb o k P) (hw:k.waits=[]) (o':Int):Neat d nb o' k P:=⟨h.secs,h.fits,h.good,h.may,.inl hw⟩
theorem Jp.of (h1:One S d) (h2:Neat d (blk S.sectors) o (dk S d) P):Jp S d o P:=⟨h1,h2.safe,fun _=>h2⟩
theorem Jp.over (h1:One S d) (h2:Safe d (blk S.sectors) (dk S d) P) (hoff:S.off≠false) (o':Int):Jp S d o' P:=⟨h1,h2,fun e=>absurd e hoff⟩
theorem Jp.more (h:Jp S d o P) (hm:∀c,P c->P' c):Jp S d o P':=⟨h.one,h.safe.more hm,fun e=>(h.neat e).more hm⟩
theorem Jp.off_any (h:Jp S d o P) (hoff:S.off≠false) (o':Int):Jp S d o' P:=Jp.over h.one h.safe hoff o'
theorem Jp.good (h:Jp S d o P) (hon:S.off=false) (k:Nat) (hk:k<blk S.sectors):goodAt S d k=true:=by
 have h1:=(h.safe (fun _=>true)).1 k hk
 have h2:=(h.neat hon).fits k hk
 have e1:at' ((dk S d).settle (fun _=>true)) (sumOf k)=V S d (sumOf k):=by rw [<- val_at rfl,val_settle _ _ h2.2];rfl
 have e2:at' ((dk S d).settle (fun _=>true)) (dataOf k)=V S d (dataOf k):=by rw [<- val_at rfl,val_settle _ _ h2.1];rfl
 rw [e1,e2] at h1
 exact h1
theorem Jp.flush (h:Jp S d o P) (hon:S.off=false) (o':Int):Jp (Fl S d) d o' (fun c=>c=vals (dk S d))/\vals (dk (Fl S d) d)=vals (dk S d)/\(dk (Fl S d) d).waits=[]:=by
 have hw:=h.one.why0.mpr hon
 obtain ⟨h1,h2,_,h3⟩:=(h.neat hon).flush o'
 rw [<- h.one.dk_fl hw] at h1 h2 h3
 refine ⟨Jp.of h.one.fl ?_,h2,h3⟩
 rw [fl_sectors]
 exact h1
theorem Jp.write (h:Jp S d o P) (hon:S.off=false) (k:Nat) (hk:k<blk S.sectors) (b b':Sh.Bs) (hb:Small b) (hv:Small (V S d (dataOf k)))
  (ho:Sh.why (ReadyQ (Looked S d) d o k true (sumL d k (V S d (dataOf k))) (sumL d k b) (V S d (sumOf k)) b') d=0->o'=(k:Int)) :
  Jp (Wr (ReadyQ (Looked S d) d o k true (sumL d k (V S d (dataOf k))) (sumL d k b) (V S d (sumOf k)) b') d (dataOf k) b) d o' (fun c=>P c\/c=upd (vals (dk S d)) k b) /\
  ((Wr (ReadyQ (Looked S d) d o k true (sumL d k (V S d (dataOf k))) (sumL d k b) (V S d (sumOf k)) b') d (dataOf k) b).off=false->vals (dk (Wr (ReadyQ (Looked S d) d o k true (sumL d k (V S d (dataOf k))) (sumL d k b) (V S d (sumOf k)) b') d (dataOf k) b) d)=upd (vals (dk S d)) k b):=by
 have hne:(true=false)=False:=by simp
 unfold ReadyQ spIf first at *
 simp only [hne,false_and,if_false,if_true] at *
 have hn:=h.neat hon
 have ha:One (Looked S d) d:=h.one.looked
 have hda:dk (Looked S d) d=dk S d:=dk_looked S d d
 have hwa:Sh.why (Looked S d) d=0:=by rw [looked_why];exact h.one.why0.mpr hon
 -- the block that waits is not this one
 obtain ⟨S1,hS1,o1,hse,n1,hv1,e1,e2,e3,hnow⟩:∃S1,flIf (Looked S d) d o k=S1/\One S1 d/\S1.sectors=S.sectors/\Neat d (blk S.sectors) o (dk S1 d) P/\vals (dk S1 d)=vals (dk S d)/\V S d (sumOf k)=at' (dk S1 d) (sumOf k)/\V S d (dataOf k)=at' (dk S1 d) (dataOf k)/\((dk S1 d).waits=[]\/o≠(k:Int))/\P (vals (dk S1 d)):=by
  refine ⟨_,rfl,?_⟩
  unfold flIf
  by_cases hko:(k:Int)=o
  ·rw [if_pos hko]
   have hf:dk (Fl (Looked S d) d) d=(dk S d).settle (fun _=>true):=by rw [ha.dk_fl hwa,hda]
   obtain ⟨q1,q2,q3,q4⟩:=hn.flush o
   rw [hf]
   refine ⟨ha.fl,by rw [fl_sectors,looked_sectors],q1.more (fun c e=>by rw [e];exact hn.now),q2,?_,?_,.inl rfl,by rw [q2];exact hn.now⟩
   ·rw [<- val_at rfl,q3 k hk]
    have:=val_settle (dk S d) (sumOf k) (hn.fits k hk).2
    rw [q3 k hk] at this
    exact this.symm
   ·rw [<- val_at rfl]
    exact (congrFun q2 k).symm
  ·rw [if_neg hko,hda]
   refine ⟨ha,looked_sectors S d,hn,rfl,?_,?_,.inr fun e=>hko e.symm,hn.now⟩
   ·rw [<- (hn.flush o).2.2.1 k hk]
    exact (val_settle (dk S d) (sumOf k) (hn.fits k hk).2).symm
   ·show (dk S d).val (dataOf k)=_
    rcases hn.waits with hw | ⟨i,c,hi,hoi,hw,_,_⟩
    ·exact val_at hw _
    ·show Sh.latest (dk S d).waits (dataOf k) (at' (dk S d) (dataOf k))=_
     rw [hw]
     show (if dataOf i=dataOf k then c else at' (dk S d) (dataOf k))=_
     rw [if_neg]
     intro e
     obtain rfl:=dataOf_inj e
     exact hko hoi.symm
 rw [hS1] at ho ⊢
 rw [e1,e2] at ho ⊢
 rw [e2] at hv
 rw [<- hv1]
 rw [<- hse] at hk n1
 clear e1 e2 hS1 ha hda hwa hn hon h hv1 hse
 obtain ⟨s1,s2,s3,s4⟩:=n1.sums k hk e3 (sumL d k b) hv
 have hp:=pr_set_1 (k:=k) (x:=sumL d k (at' (dk S1 d) (dataOf k))) (n1.secs k hk) (sumL_lt (d:=d) (k:=k) hb)
 have hsafe1:=n1.safe
 generalize setPair (at' (dk S1 d) (sumOf k)) k (sumL d k (at' (dk S1 d) (dataOf k))) (sumL d k b)=X at *
 generalize hvs:vals (dk S1 d)=vs at *
 by_cases w1:Sh.why S1 d=0
 ·have o2:=o1.wr (sumOf k) X
  have d2:=o1.dk_wr (sumOf k) X w1
  have z2:=wr_sectors S1 d (sumOf k) X
  rw [<- d2] at s1 s2 s3 s4
  generalize Wr S1 d (sumOf k) X=S2 at *
  by_cases w2:Sh.why S2 d=0
  ·have o3:=o2.fl
   have d3:=o2.dk_fl w2
   have z3:=(fl_sectors S2 d).trans z2
   rw [<- d3] at s2 s3 s4
   have hw3:(dk (Fl S2 d) d).waits=[]:=by rw [d3];rfl
   generalize Fl S2 d=S3 at *
   have z4:=(wr_sectors S3 d (dataOf k) b).trans z3
   by_cases w3:Sh.why S3 d=0
   ·obtain ⟨hq,hqv⟩:=s2.data hw3 k hk b (ho w3) (.inr (by rw [s4];exact hp.symm))
    rw [<- o3.dk_wr (dataOf k) b w3,s3] at hq hqv
    refine ⟨Jp.of (o3.wr _ _) ?_,fun _=>hqv⟩
    rw [z4]
    exact hq.more (fun c hc=>hc.imp (fun e=>by rw [e];exact hnow) id)
   ·rw [wr_why w3]
    refine ⟨Jp.over o3 ?_ (fun e=>w3 (o3.why0.mpr e)) o',fun e=>absurd (o3.why0.mpr e) w3⟩
    rw [z3]
    exact s2.safe.more (fun c e=>.inl (by rw [e];exact hnow))
  ·rw [fl_why w2,wr_why w2]
   refine ⟨Jp.over o2 ?_ (fun e=>w2 (o2.why0.mpr e)) o',fun e=>absurd (o2.why0.mpr e) w2⟩
   rw [z2]
   exact s1.more (fun c e=>.inl e)
 ·rw [wr_why w1,fl_why w1,wr_why w1]
  exact ⟨Jp.over o1 (hsafe1.more (fun c e=>.inl e)) (fun e=>w1 (o1.why0.mpr e)) o',fun e=>absurd (o1.why0.mpr e) w1⟩
theorem getD_rep' {n m:Nat} (x:Sh.Bs) (hm:m<n):(List.replicate n x).getD m []=x:=by
 simp [List.getD,hm]
theorem Jp.new {n s:Nat} (hd:d<n):Jp (Sh.newSf n s) d (-1) (fun c=>∀j,j<blk s->c j=Sh.noughts)/\∀j,j<blk s->vals (dk (Sh.newSf n s) d) j=Sh.noughts:=by
 have hk:dk (Sh.newSf n s) d=Sh.newDk s:=by
  unfold dk
  show (List.replicate n (Sh.newDk s)).getD d default=_
  simp [List.getD,hd]
 have hat:∀m,m<s->at' (dk (Sh.newSf n s) d) m=Sh.noughts:=by
  intro m hm
  rw [hk]
  show (List.replicate s Sh.noughts).getD m []=_
  exact getD_rep' _ hm
 have hlt:∀j,j<blk s->dataOf j<s/\sumOf j<s:=fun j hj=>⟨(sum_of_lt hj).1,(sum_of_lt hj).2.1⟩
 have hws:(dk (Sh.newSf n s) d).waits=[]:=by rw [hk];rfl
 refine ⟨Jp.of ⟨by simpa [Sh.newSf] using hd,by rw [hk];rfl,by rw [hk];simp [Sh.newDk,Sh.newSf]⟩ ⟨?_,?_,?_,?_,.inl hws⟩,?_⟩
 ·intro j hj;rw [hat _ (hlt j hj).2];rfl
 ·intro j hj;rw [hk];simpa [Sh.newDk] using hlt j hj
 ·intro j hj
  have hgd:=good_noughts (S:=Sh.newSf n s) (d:=d) (k:=j) (V_new hd (hlt j hj).2) (V_new hd (hlt j hj).1)
  unfold goodAt at hgd
  rw [V_new hd (hlt j hj).2,V_new hd (hlt j hj).1] at hgd
  rw [hat _ (hlt j hj).2,hat _ (hlt j hj).1]
  exact hgd
 ·intro j hj;exact hat _ (hlt j hj).1
 ·intro j hj
  rw [vals_nil hws]
  exact hat _ (hlt j hj).1
end
section
variable {B:Nat} {W w w':World} {a p d:Nat} {o:Int} {S:Sh.Sf} {F:Nat->Prop} {P:Cs}
structure Wrote (S:Sh.Sf) (d k:Nat) (b:Sh.Bs) (P:Cs) (m:Nat) (y:Int) (o':Int) (S':Sh.Sf):Prop where
 jp:Jp S' d o' (fun c=>P c\/(S.off=false/\c=upd (vals (dk S d)) k b))
 now:S'.off=false->vals (dk S' d)=upd (vals (dk S d)) k b/\y=0
 on:S'.off=false->S.off=false
 sectors:S'.sectors=S.sectors
 calm:Calm S d->y=0/\Calm S' d
 len:∀k∈S'.disks,k.waits.length<=m+2
theorem wr_lens {S:Sh.Sf} {d n m:Nat} {b:Sh.Bs} (hL:∀k∈S.disks,k.waits.length<=m):∀k∈(Wr S d n b).disks,k.waits.length<=m+1:=by
 intro x hx
 unfold Wr at hx
 split at hx
 ·have hx:x∈S.disks.set d ((S.disks.getD d default).write n b):=hx
  rcases List.mem_or_eq_of_mem_set hx with hk | rfl
  ·have:=hL x hk;omega
  ·show ((S.disks.getD d default).waits++[(n,b)]).length<=m+1
   rw [List.length_append]
   by_cases hd:d<S.disks.length
   ·have:=hL _ (Sh.getD_mem (l:=S.disks) (d:=d) hd)
    show _+1<=m+1
    omega
   ·have e:S.disks.getD d default=default:=by simp [List.getD,List.getElem?_eq_none (Nat.le_of_not_lt hd)]
    rw [e]
    show 0+1<=m+1
    omega
 ·have:=hL x hx;omega
theorem fl_lens {S:Sh.Sf} {d m:Nat} (hL:∀k∈S.disks,k.waits.length<=m):∀k∈(Fl S d).disks,k.waits.length<=m:=fun x hx=>by
 have:=fl_waits (m:=m+1) (d:=d) (fun k hk=>by have:=hL k hk;omega) x hx
 omega
end
/-! ### a log -/
def LogIs (w:World) (g a n:Nat):Prop:=w.heap[g]?=some (.cells #[.pointer (some ⟨a,0,none⟩),.int .i64 n] 236 (0,0))
section
variable {w w':World} {g a n:Nat}
theorem LogIs.c0 (h:LogIs w g a n):w.cell? ⟨g,0,none⟩=some (.pointer (some ⟨a,0,none⟩)):=cell_of_row _ _ 0 _ _ _ h
theorem LogIs.c1 (h:LogIs w g a n):w.cell? ⟨g,1,none⟩=some (.int .i64 n):=cell_of_row _ _ 1 _ _ _ h
theorem LogIs.lt (h:LogIs w g a n):g<w.heap.size:=(Array.getElem?_eq_some_iff.1 h).1
theorem LogIs.same (h:LogIs w g a n) (hk:w'.heap[g]?=w.heap[g]?):LogIs w' g a n:=hk.trans h
end
structure Lg (B:Nat) (W w:World) (g a p d:Nat) (o:Int) (S:Sh.Sf) (F:Nat->Prop) (n:Nat):Prop where
 dv:Dv B W w a p d o S F
 log:LogIs w g a n
 apart:¬With F a g
 low:B<=g
def LGoes (B:Nat) (W w w':World) (g a p d:Nat) (o:Int) (S:Sh.Sf) (F:Nat->Prop) (n:Nat):Prop:=∃F',Lg B W w' g a p d o S F' n/\Sh.Moves (With F a) w (With F' a) w'
section
variable {B:Nat} {W w w' w'':World} {g a p d n:Nat} {o o':Int} {S S':Sh.Sf} {F:Nat->Prop}
theorem Lg.goes (h:Lg B W w g a p d o S F n) (hG:Goes B W w w' a p d o' S' F):LGoes B W w w' g a p d o' S' F n:=by
 obtain ⟨F',D,m⟩:=hG
 refine ⟨F',⟨D,h.log.same (m.1.block g h.log.lt h.apart),fun e=>?_,h.low⟩,m⟩
 rcases m.2 g e with e | e
 ·exact h.apart e
 ·exact Nat.lt_irrefl _ (Nat.lt_of_lt_of_le h.log.lt e)
theorem Lg.grown (h:Lg B W w g a p d o S F n) (hb:Below w.heap.size w w'):Lg B W w' g a p d o S F n:=⟨h.dv.grown hb,h.log.same (hb.block g h.log.lt),h.apart,h.low⟩
theorem Lg.lt (h:Lg B W w g a p d o S F n):∀b,With F a b->b<w.heap.size:=with_lt h.dv
theorem headAt_any (k:Nat) (hk:k<=1000) (w:World):Calls Tryz.prog 193 #[.int .i64 k] w fun e w'=>e=.returned (.int .i64 ((2+2*k:Nat):Int))/\w=w':=by
 have hx:=hid (show 2+2*(k:Int)=((2+2*k:Nat):Int) by omega)
 go_enter Tryz.func193,Tryz.ntmps193
 go_wp2
 go_ret
 exact ⟨by rw [<- hx.out];rfl,rfl⟩
theorem partAt_any (k:Nat) (hk:k<=1000) (w:World):Calls Tryz.prog 247 #[.int .i64 k] w fun e w'=>e=.returned (.int .i64 ((3+2*k:Nat):Int))/\w=w':=by
 have hx:=hid (show ((2+2*k:Nat):Int)+1=((3+2*k:Nat):Int) by omega)
 have hq:=hid (headAt_any k hk)
 have hb:2+2*k<=2002:=by omega
 generalize 2+2*k=x at *
 generalize 3+2*k=y at *
 go_enter Tryz.func247,Tryz.ntmps247
 go_wp2_with fail
 refine (hq.out _).mono ?_
 rintro e w' ⟨rfl,rfl⟩
 go_wp2
 go_ret
 exact ⟨by rw [<- hx.out];rfl,rfl⟩
theorem refusal_yes (h:LogIs w g a n) (k:Nat) (hk:k<n):Calls Tryz.prog 231 #[.pointer (some ⟨g,0,none⟩),.int .i64 k] w fun e w'=>e=.returned (.int .i64 0)/\w=w':=by
 have c1:=h.c1
 have hq:decide ((n:Int)<=(k:Int))=false:=by simp;omega
 go_enter Tryz.func231,Tryz.ntmps231
 go_wp2
 go_ret
 exact ⟨rfl,rfl⟩
end
section
variable {w:World} {a p:Nat} {d o:Int} {S:Sh.Sf} {F:Nat->Prop}
theorem logOpen_few (n:Nat) (h1:1<=n) (h2:n<=8) (h:DevIs w a p d o) (hs:Sh.Shelf w p S F) (hb:blk S.sectors<2+2*n) :
  Calls Tryz.prog 139 #[.pointer (some ⟨a,0,none⟩),.int .i64 n] w fun e w'=>e=.returned (.tuple #[.pointer none,.int .i64 1])/\∃k,w'=w.drewN k:=by
 have q1:decide ((n:Int)<1)=false:=by simp;omega
 have q2:decide (8<(n:Int))=false:=by simp;omega
 have hc:=hid (count_of h hs (secM_of hs))
 have q3:decide (blk S.sectors<2+2*n)=true:=by simp;omega
 have hq:=hid (headAt_any n (by omega))
 clear hb h hs
 generalize 2+2*n=x at *
 generalize blk S.sectors=y at *
 go_enter Tryz.func139,Tryz.ntmps139
 go_wp2_with (first
  | (go_at_call 131;refine hc.out.mono ?_;rintro e w' ⟨rfl,m,rfl⟩)
  | (go_at_call 193;refine (hq.out _).mono ?_;rintro e w' ⟨rfl,rfl⟩))
 go_ret2
 exact ⟨rfl,m,rfl⟩
theorem logOpen_ok (n:Nat) (h1:1<=n) (h2:n<=8) (h:DevIs w a p d o) (hs:Sh.Shelf w p S F) (hb:2+2*n<=blk S.sectors) :
  Calls Tryz.prog 139 #[.pointer (some ⟨a,0,none⟩),.int .i64 n] w fun e w'=>e=.returned (.tuple #[.pointer (some ⟨w.heap.size,0,none⟩),.int .i64 0])/\LogIs w' w.heap.size a n/\Below w.heap.size w w':=by
 have q1:decide ((n:Int)<1)=false:=by simp;omega
 have q2:decide (8<(n:Int))=false:=by simp;omega
 have hc:=hid (count_of h hs (secM_of hs))
 have q3:decide (blk S.sectors<2+2*n)=false:=by simp;omega
 have hq:=hid (headAt_any n (by omega))
 clear hb h hs
 generalize 2+2*n=x at *
 generalize blk S.sectors=y at *
 go_enter Tryz.func139,Tryz.ntmps139
 go_wp2_with (first
  | (go_at_call 131;refine hc.out.mono ?_;rintro e w' ⟨rfl,m,rfl⟩)
  | (go_at_call 193;refine (hq.out _).mono ?_;rintro e w' ⟨rfl,rfl⟩))
 go_ret2
 exact ⟨rfl,heap_alloc_new (w.drewN m) _,(drawn (Below.refl _ w) m).alloc (Nat.le_refl _) _⟩
end
end Go.Proofs.YtcnjpmcelihknaaGreatDoor.U
