/-
  What the statement's proof rests on, part 24.
  Conditions: each theorem's own.
-/
import Derived.Test.YtepoepmndckmaaaGreatDoorY22
import Derived.Deep.AppendSrc
import Derived.Lib.LazyBuf
import Derived.Shelf.Spec.SlicesInsert
import Derived.Laws.CopyOwn
import Derived.Lib.SlBytesConst
import Derived.Shelf.Slices.Clone
import Derived.Test.YtepoepmndckmaaaGreatDoorYtk
open Go.Lib (hid)
namespace Go.Proofs.YtepoepmndckmaaaGreatDoor.U
open Go.RowKit Go.Maps
def signL:List Nat:=[80,65,82,84]
def preK (f:Nat->Nat):Nat->List Nat
 | 0=>signL
 | k+1=>preK f k++putL (f k) 4
theorem preK_length (f:Nat->Nat):∀k,(preK f k).length=4+k*4
 | 0=>rfl
 | k+1=>by rw [preK,List.length_append,preK_length f k,putL_length];omega
theorem preK_small (f:Nat->Nat):∀k,Small (preK f k)
 | 0=>by unfold preK signL;intro x hx;simp at hx;omega
 | k+1=>by
  intro x hx
  rw [preK,List.mem_append] at hx
  rcases hx with hx | hx
  ·exact preK_small f k x hx
  ·exact putL_small _ _ x hx
def bodyL (f:Nat->Nat):List Nat:=preK f 3++List.replicate 108 0
def headL (f:Nat->Nat):List Nat:=bodyL f++putL (Nums.sum 0 (bodyL f)) 4
theorem bodyL_length (f:Nat->Nat):(bodyL f).length=124:=by rw [bodyL,List.length_append,preK_length,List.length_replicate]
theorem headL_length (f:Nat->Nat):(headL f).length=128:=by rw [headL,List.length_append,bodyL_length,putL_length]
theorem bodyL_small (f:Nat->Nat):Small (bodyL f):=by
 intro x hx
 rw [bodyL,List.mem_append] at hx
 rcases hx with hx | hx
 ·exact preK_small f 3 x hx
 ·rw [(List.mem_replicate.1 hx).2];decide
theorem headL_small (f:Nat->Nat):Small (headL f):=by
 intro x hx
 rw [headL,List.mem_append] at hx
 rcases hx with hx | hx
 ·exact bodyL_small f x hx
 ·exact putL_small _ _ x hx
theorem body_sum_lt (f:Nat->Nat):Nums.sum 0 (bodyL f)<2 ^ (8*4):=Nums.sum_lt (bodyL_small f) (by decide)
/-! ### bytes behind what a row has -/
def setL (l:List Value) (o:Nat):List Value->List Value
 | []=>l
 | v :: r=>setL (l.set o v) (o+1) r
theorem setL_eq (l:List Value) (o:Nat) (vs:List Value) (h:o+vs.length<=l.length):setL l o vs=l.take o++vs++l.drop (o+vs.length):=by
 induction vs generalizing l o with
 | nil=>simp [setL]
 | cons v r ih =>
  have h':o+(r.length+1)<=l.length:=h
  rw [setL,ih (l.set o v) (o+1) (by rw [List.length_set];omega)]
  have h1:(l.set o v).take (o+1)=l.take o++[v]:=by
   rw [List.take_succ_eq_append_getElem (by rw [List.length_set];omega),List.take_set_of_le (Nat.le_refl _)]
   simp
  have h2:(l.set o v).drop (o+1+r.length)=l.drop (o+(r.length+1)):=by
   rw [List.drop_set_of_lt (by omega)]
   congr 1;omega
  rw [h1,h2]
  simp
theorem setCells_heapP {g:Nat} {t:TypeId}:∀(vs:List Value) (o:Nat) (W:World) (cur:List Value),W.heap[g]?=some (.cells cur.toArray t (0,0))->(W.setCells g o vs).heap[g]?=some (.cells (setL cur o vs).toArray t (0,0))
 | [],_,_,_,h=>h
 | v :: r,o,W,cur,h=>by
  have h2:=heap_setCell_same W g o cur.toArray t v h
  rw [List.setIfInBounds_toArray] at h2
  exact setCells_heapP r (o+1) _ _ h2
theorem splice_pad (a:List Nat) (n k:Nat) (c:List Nat) (h:a.length=k) (_:c.length<=n) :
  splice (bts (a++List.replicate n 0)) k (bts c)=bts ((a++c)++List.replicate (n-c.length) 0):=by
 unfold splice
 subst h
 simp only [bts,List.length_map,List.map_append,List.map_replicate]
 rw [List.take_append_of_le_length (by simp),List.take_of_length_le (by simp),List.drop_append,List.drop_eq_nil_of_le (by simp),List.nil_append,List.drop_replicate]
 simp
theorem only_setCells (g:Nat):∀(vs:List Value) (o:Nat) (w:World),Sh.Only (fun b=>b=g) w (w.setCells g o vs)
 | [],_,w=>Sh.Only.refl _ w
 | v :: r,o,w=>by
  have h1:Sh.Only (fun b=>b=g) w (w.setCell ⟨g,o,none⟩ v):=(Sh.Only.refl (fun b=>b=g) w).setCell (p:=⟨g,o,none⟩) (.inl rfl) v
  exact h1.trans (only_setCells g r (o+1) _) (fun _ h=>.inl h)
def Pad (w:World) (g:Nat) (l:List Nat):Prop:=w.heap[g]?=some (.cells (bts (l++List.replicate (128-l.length) 0)).toArray 5 (0,0))
theorem Pad.same {w w':World} {g:Nat} {l:List Nat} (h:Pad w g l) (hk:w'.heap[g]?=w.heap[g]?):Pad w' g l:=hk.trans h
theorem Pad.lt {w:World} {g:Nat} {l:List Nat} (h:Pad w g l):g<w.heap.size:=(Array.getElem?_eq_some_iff.1 h).1
theorem run_append_pad {w:World} {g n:Nat} {l c:List Nat} (h:Pad w g l) (tx ty:TypeId) (x:Value) (hs:Src Tryz.prog 1 tx x c.length (bts c) w) (hn:l.length=n) (hfit:n+c.length<=128) :
  ∃w',(Builtin.append_ #[40,tx] ty #[.slice (some ⟨g,0,none⟩) n 128,x]).run Tryz.prog w=.ok (.slice (some ⟨g,0,none⟩) (n+c.length) 128) w'/\Pad w' g (l++c)/\Sh.Only (fun b=>b=g) w w':=by
 obtain ⟨i,hi,hz,hsz,hby⟩:=info_parts info_u8
 subst hn
 have hl:(bts c).length=c.length:=bts_length c
 have hall:(bts (l++List.replicate (128-l.length) 0)).length=128:=by rw [bts_length,List.length_append,List.length_replicate];omega
 refine ⟨_,run_append_room_src w 40 tx ty 5 i Tryz.underlying40 hi g 0 l.length 128 x c.length (bts c) (by rw [hsz];exact hs) hfit (fun j hj=>?_) (fun j hj=>frozen_of_row _ _ _ _ _ h),?_,?_⟩
 ·rw [cell_of_row _ _ _ _ _ _ h,List.getElem?_toArray,hsz,List.getElem?_eq_getElem (by omega)]
  rfl
 ·rw [hsz]
  have h2:=setCells_heapP (bts c) (0+l.length*1) w _ h
  rw [setL_eq _ _ _ (by omega)] at h2
  have e:=splice_pad l (128-l.length) l.length c rfl (by omega)
  unfold splice at e
  rw [Nat.zero_add,Nat.mul_one] at h2
  unfold Pad
  rw [<- List.append_assoc] at e
  rw [Nat.zero_add,Nat.mul_one]
  refine h2.trans ?_
  rw [List.length_append,<- Nat.sub_sub,<- e]
 ·rw [hsz]
  exact only_setCells g _ _ w
theorem append_pad {ops:Array Oper} {rest:List Oper} {o:Oper} {a:Act} {Q:Exit->Act->World->Prop} {w:World} (hgd:o.guard=none) (s x:Operand) (tx:TypeId)
  (ho:o.op=.call { callee:=.builtin .append,args:=#[s,x],argTypes:=#[40,tx] })
  {g n:Nat} {l c:List Nat} (h:Pad w g l) {xv:Value} (hsv:a.eval s=.slice (some ⟨g,0,none⟩) n 128) (hx:a.eval x=xv) (hs:Src Tryz.prog 1 tx xv c.length (bts c) w) (hn:l.length=n) (hfit:n+c.length<=128)
  (hk:∀w',Pad w' g (l++c)->Sh.Only (fun b=>b=g) w w'->wpList Tryz.prog ops Q rest (a.put o.dst (.slice (some ⟨g,0,none⟩) (n+c.length) 128)) w'):wpList Tryz.prog ops Q (o :: rest) a w:=by
 refine wpList_plain hgd fun K hK=>?_
 obtain ⟨w',hr,h2,h3⟩:=run_append_pad h tx o.type xv hs hn hfit
 unfold Oper.wp execOp
 simp only [ho,resolve,invoke,builtin,Sem.run_bind,Sem.run_pure,Result.andThen_ok,List.map_toArray,List.map_cons,List.map_nil,hsv,hx,hr]
 exact hK _ _ (hk w' h2 h3)
theorem src_own {w:World} {B n:Nat} {v:Value} {l:List Nat} (h:w.ownsRow B 5 1 v n (bts l)) (h0:0<n):∃ad cc,v=.slice (some ad) n cc/\Src Tryz.prog 1 40 (.slice (some ad) n cc) n (bts l) w:=by
 obtain ⟨A,c,rfl,hr,_,_⟩:=own_shape h
 obtain ⟨ad,rfl,_,hc⟩:=hr.2 h0
 exact ⟨ad,c,rfl,Src.ofSlice w Tryz.underlying40 ad n c _ (by rw [hr.1,Nat.mul_one]) hc (bts_one l)⟩
def cntL:List Nat:=[1024,15,4294967296]
structure Flds (w:World):Prop where
 at_:∀i,i<3->w.cell? ⟨4,i*2,none⟩=some (.int .i64 ((4+i*4:Nat):Int))
 cnt:∀i,i<3->w.cell? ⟨4,i*2+1,none⟩=some (.int .u64 ((cntL.getD i 0:Nat):Int))
theorem Flds.size {w:World} (h:Flds w):4+1<=w.heap.size:=World.block_lt_of_cell? w _ (h.at_ 0 (by decide))
theorem Flds.below {w w':World} {B:Nat} (h:Flds w) (hB:4+1<=B) (hb:Below B w w'):Flds w' :=
 ⟨fun i hi=>(hb.cell (p:=⟨4,i*2,none⟩) hB).trans (h.at_ i hi),fun i hi=>(hb.cell (p:=⟨4,i*2+1,none⟩) hB).trans (h.cnt i hi)⟩
theorem info_numbers:(Tryz.prog.info? 264).map (·.size)=some 3:=by kernel_rfl
theorem info_record:(Tryz.prog.info? 190).map (·.size)=some 3:=by kernel_rfl
theorem cells3_of {w:World} {g:Nat} {t:TypeId} {v0 v1 v2:Value} (h:w.heap[g]?=some (.cells #[v0,v1,v2] t (0,0))) :
  w.cell? ⟨g,0,none⟩=some v0/\w.cell? ⟨g,1,none⟩=some v1/\w.cell? ⟨g,2,none⟩=some v2/\∀i,w.frozen? ⟨g,i,none⟩=false :=
 ⟨cell_of_row _ _ 0 _ _ _ h,cell_of_row _ _ 1 _ _ _ h,cell_of_row _ _ 2 _ _ _ h,fun _=>frozen_of_row _ _ _ _ _ h⟩
theorem results_cell {fn:Func} {a:Tmp} {t:TypeId} {P:Program} {w:World} {v:Value} {tmps:Array Value} {g:Nat} (h:fn.results=#[.cell a t])
  (hp:tmps.getD a undef=.pointer (some ⟨g,0,none⟩)) (hl:(loadVar t ⟨g,0,none⟩).run P w=.ok v w):(results fn tmps).run P w=.ok v w:=by
 rw [Array.getD_eq_getD_getElem?] at hp
 simp [results,h,hp,asAddr,hl]
def numsV (s p:Int) (l:List Nat):Array Value:=#[.int .u64 (IntKind.u64.wrap s),.int .u64 (IntKind.u64.wrap p),.int .u64 ((Nums.sum 0 l:Nat):Int)]
set_option maxRecDepth 20000 in
set_option maxHeartbeats 1000000 in
theorem numbersOf_any (s p:Int) (A:Option Addr) (n c:Nat) (l:List Nat) (w:World) (hl:Small l) (hr:Reads w w.heap.size A n (bts l)) (hn:n<=maxLen) (hT:Tabs w) :
  Calls Tryz.prog 207 #[.agg #[.int .i64 s,.int .i64 p,.slice A n c]] w fun e w'=>e=.returned (.agg (numsV s p l))/\Below w.heap.size w w':=by
 unfold numsV
 have hx:IntKind.u64.wrap ((Nums.sum 0 l:Nat):Int)=((Nums.sum 0 l:Nat):Int):=by
  have:=Nums.sum_lt hl (s:=0) (by decide)
  generalize Nums.sum 0 l=z at *
  rw [IntKind.wrap_u64];omega
 have HR:=hid (fun W' (h:Below w.heap.size w W')=>hr.below h)
 have HT:=hid (fun W' (h:Below w.heap.size w W')=>hT.below hT.size h)
 clear hr hT
 obtain ⟨q0,q1,hz0,hB0⟩:=two_new' w #[.int .i64 s,.int .i64 p,.slice A n c] #[.int .u64 0,.int .u64 0,.int .u64 0] 190 264
 go_enter Tryz.func207,Tryz.ntmps207
 go_wp2_with fail
 generalize (w.alloc (.cells #[.int .i64 s,.int .i64 p,.slice A n c] 190)).alloc (.cells #[.int .u64 0,.int .u64 0,.int .u64 0] 264)=W0 at *
 have Q0:=hid (fun W' (h:Below (w.heap.size+1) W0 W')=>(h.block w.heap.size (by omega)).trans q0)
 have Q1:=hid q1
 have HB0:=hid hB0
 have HZ:=hid hz0
 clear q0 q1 hB0 hz0
 have k0:=fun W' (h:Below (w.heap.size+1) W0 W')=>(cells3_of (Q0.out W' h)).1
 have k1:=fun W' (h:Below (w.heap.size+1) W0 W')=>(cells3_of (Q0.out W' h)).2.1
 have k2:=fun W' (h:Below (w.heap.size+1) W0 W')=>(cells3_of (Q0.out W' h)).2.2.1
 have HU:=hid (fun W' (h:Below (w.heap.size+1) W0 W')=>HB0.out.trans (h.mono (Nat.le_succ _)))
 refine wp_region_held_drew (S:=fun (W':World)=>Below (w.heap.size+1) W0 W') (by kernel_rfl) ((Below.refl _ _).drew) (fun hHeld=>?_)
 refine tk 0 3 ?_
 refine tk 1 4 ?_
 refine tk 2 5 ?_
 refine tk 3 6 ?_
 refine tk 4 7 ?_
 refine tk 5 8 ?_
 refine tk 6 9 ?_
 refine tk 7 10 ?_
 refine r1 8 (some 11) fun K hK=>?_
 go_simp
 refine (crc_any A n c w.heap.size l 0 _ (by decide) hl (HR.out _ (HU.out _ hHeld)) hn (HT.out _ (HU.out _ hHeld))).mono ?_
 rintro e w3 ⟨rfl,m,rfl⟩
 refine hK.out _ _ (hHeld.trans (drawn (Below.refl _ _) m)) (fun hHeld=>?_)
 clear hK K
 try simp only [Act.put,List.setIfInBounds_toArray,List.set_cons_zero,List.set_cons_succ]
 have B4:=hid hHeld
 refine tk 9 12 ?_
 refine tk 10 13 ?_
 refine r1 11 none fun K hK=>?_
 rw [if_pos (by rfl)]
 refine wp_store_row 264 _ _ rfl (w.heap.size+1) (#[.int .u64 (IntKind.u64.wrap s),.int .u64 (IntKind.u64.wrap p),.int .u64 ((Nums.sum 0 l:Nat):Int)]) rfl rfl 264 _ (show _ from Q1.out) info_numbers rfl (by simp [Value.oneCell']) ?_
 refine hK.out _ _ (below_setRow B4.out (Nat.le_refl _) _) (fun hHeld=>?_)
 clear hK K
 refine wpAnyH_done (by kernel_rfl) ?_ _
 have E5:=hid (run_loadVar_row (P:=Tryz.prog) _ (w.heap.size+1) 264 264 _ (0,0) _ (setRow_heap (W0.drew.drewN m) _ _ (#[.int .u64 (IntKind.u64.wrap s),.int .u64 (IntKind.u64.wrap p),.int .u64 ((Nums.sum 0 l:Nat):Int)]) _ _ (show _ from Q1.out)) Tryz.underlying264 rfl info_numbers)
 have E6:=hid (HU.out _ hHeld)
 go_wp2
 exact bodyPost_ret (results_cell (g:=w.heap.size+1) Tryz.results207 rfl E5.out) rfl ⟨rfl,E6.out⟩
def mayB (s p:Int) (n:Nat):Bool:=decide (n=128) && (decide (IntKind.u64.wrap s<1024) && decide (IntKind.u64.wrap p<15))
theorem mayB_iff {s p:Int} {n:Nat} (hs:-9223372036854775808<=s/\s<=9223372036854775807) (hp:-9223372036854775808<=p/\p<=9223372036854775807):mayB s p n=true↔n=128/\(0<=s/\s<=1023)/\0<=p/\p<=14:=by
 unfold mayB
 rw [IntKind.wrap_u64,IntKind.wrap_u64]
 simp only [Bool.and_eq_true,decide_eq_true_eq]
 omega
theorem mayBe_len (s p:Int) (A:Option Addr) (n c:Nat) (w:World) (hn:n≠128) (_hm:n<=maxLen) :
  Calls Tryz.prog 199 #[.agg #[.int .i64 s,.int .i64 p,.slice A n c]] w fun e w'=>e=.returned (.bool false)/\Below w.heap.size w w':=by
 have hq:((n:Int) != 128)=true:=by rw [bne_iff_ne];omega
 have hb:Below w.heap.size w (w.alloc (.cells #[.int .i64 s,.int .i64 p,.slice A n c] 190)):=(Below.refl _ _).alloc (Nat.le_refl _) _
 obtain ⟨k0,k1,k2,_⟩:=cells3_of (heap_alloc_new w (.cells #[.int .i64 s,.int .i64 p,.slice A n c] 190))
 go_enter Tryz.func199,Tryz.ntmps199
 go_wp2
 go_ret
 exact ⟨rfl,hb⟩
set_option maxRecDepth 20000 in
theorem mayBe_is (s p:Int) (A:Option Addr) (c:Nat) (l:List Nat) (w:World) (hl:Small l) (hr:Reads w w.heap.size A 128 (bts l)) (hT:Tabs w) (hF:Flds w) :
  Calls Tryz.prog 199 #[.agg #[.int .i64 s,.int .i64 p,.slice A 128 c]] w fun e w'=>e=.returned (.bool (mayB s p 128))/\Below w.heap.size w w':=by
 have HN:=hid (fun w' (h:Below w.heap.size w w')=>numbersOf_any s p A 128 c l w' hl ((hr.below h).more h.size) (by decide) (hT.below hT.size h))
 have HF:=hid (fun w' (h:Below w.heap.size w w')=>hF.below hF.size h)
 have HR:=hid (show mayB s p 128=(decide (IntKind.u64.wrap s<1024) && decide (IntKind.u64.wrap p<15)) from by unfold mayB;simp)
 have hz:Nums.sum 0 l<4294967296:=Nums.sum_lt hl (by decide)
 have ha:0<=IntKind.u64.wrap s/\IntKind.u64.wrap s<18446744073709551616:=by rw [IntKind.wrap_u64];omega
 have hb:0<=IntKind.u64.wrap p/\IntKind.u64.wrap p<18446744073709551616:=by rw [IntKind.wrap_u64];omega
 unfold numsV at HN
 generalize mayB s p 128=res at *
 generalize IntKind.u64.wrap s=a at *
 generalize IntKind.u64.wrap p=b at *
 generalize Nums.sum 0 l=z at *
 clear hl hr hT hF
 have hB0:Below w.heap.size w (w.alloc (.cells #[.int .i64 s,.int .i64 p,.slice A 128 c] 190)):=(Below.refl _ _).alloc (Nat.le_refl _) _
 obtain ⟨k0,k1,k2,_⟩:=cells3_of (heap_alloc_new w (.cells #[.int .i64 s,.int .i64 p,.slice A 128 c] 190))
 have hz0:w.heap.size<=(w.alloc (.cells #[.int .i64 s,.int .i64 p,.slice A 128 c] 190)).heap.size:=by simp
 go_enter Tryz.func199,Tryz.ntmps199
 go_wp2_with fail
 generalize w.alloc (.cells #[.int .i64 s,.int .i64 p,.slice A 128 c] 190)=W0 at *
 refine (HN.out W0 hB0).mono ?_
 rintro e w1 ⟨rfl,b1⟩
 have hB1:=hB0.trans (b1.mono hz0)
 have F1:=HF.out w1 hB1
 have f0:=F1.cnt 0 (by decide)
 have f1:=F1.cnt 1 (by decide)
 have f2:=F1.cnt 2 (by decide)
 simp only [cntL,List.getD_cons_zero,List.getD_cons_succ] at f0 f1 f2
 generalize (4294967296:Nat)=M at f2 hz
 have HB1:=hid hB1
 clear k0 k1 k2 b1 hB0 hB1 F1 hz0 HF
 have i0:∀w,(Instr.index 264 (.agg #[.int .u64 a,.int .u64 b,.int .u64 (z:Int)]) (.int .i64 0)).run Tryz.prog w=.ok (.int .u64 a) w:=fun _=>by kernel_rfl
 have i1:∀w,(Instr.index 264 (.agg #[.int .u64 a,.int .u64 b,.int .u64 (z:Int)]) (.int .i64 1)).run Tryz.prog w=.ok (.int .u64 b) w:=fun _=>by kernel_rfl
 have i2:∀w,(Instr.index 264 (.agg #[.int .u64 a,.int .u64 b,.int .u64 (z:Int)]) (.int .i64 2)).run Tryz.prog w=.ok (.int .u64 (z:Int)) w:=fun _=>by kernel_rfl
 go_wp2_with fail
 go_loop [11] (fun i=>∃k:Nat,k<=3/\i=.int .i64 k/\Aside (0<k->a<1024)/\Aside (1<k->b<15)) (fun i=>3-(intOf i).toNat)
 case atStart=>exact ⟨0,by omega,rfl,fun h=>absurd h (by omega),fun h=>absurd h (by omega)⟩
 case round =>
  obtain ⟨k,hk,rfl,h0,h1⟩:=hrel
  obtain rfl | rfl | rfl | rfl:k=0\/k=1\/k=2\/k=3:=by omega
  ·by_cases h:a<1024
   ·go_wp2_with fail
    go_round
    case rel=>exact ⟨1,by omega,rfl,fun _=>h,fun h=>absurd h (by omega)⟩
    case measure=>simp [intOf]
   ·have hx:=hid (show res=false by rw [HR.out,decide_eq_false h];rfl)
    go_wp2_with fail
    go_ret
    exact ⟨by rw [hx.out];rfl,HB1.out⟩
  ·have h2:=hid (h0.out (by omega))
   by_cases h:b<15
   ·go_wp2_with fail
    go_round
    case rel=>exact ⟨2,by omega,rfl,fun _=>h2.out,fun _=>h⟩
    case measure=>simp [intOf]
   ·have hx:=hid (show res=false by rw [HR.out,decide_eq_false h,Bool.and_false])
    go_wp2_with fail
    go_ret
    exact ⟨by rw [hx.out];rfl,HB1.out⟩
  ·have h2:=hid (h0.out (by omega))
   have h3:=hid (h1.out (by omega))
   clear h0 h1
   go_wp2_with fail
   go_round
   case rel=>exact ⟨3,by omega,rfl,fun _=>h2.out,fun _=>h3.out⟩
   case measure=>simp [intOf]
  ·have h2:=hid (h0.out (by omega))
   have h3:=hid (h1.out (by omega))
   clear h0 h1
   have hx:=hid (show res=true by rw [HR.out,decide_eq_true h2.out,decide_eq_true h3.out];rfl)
   go_wp2_with fail
   go_ret
   exact ⟨by rw [hx.out];rfl,HB1.out⟩
theorem only_row_below' {B g:Nat} {w w' w'':World} (h:Below B w w') (k:Sh.Only (fun b=>b=g) w' w'') (hg:B<=g) (hB:B<=w.heap.size):Below B w w'' :=
 h.trans (k.below (fun b e=>by omega) (Nat.le_trans hB h.size))
set_option maxRecDepth 20000 in
theorem appendNumber_any {w:World} {g n x:Nat} {l:List Nat} (h:Pad w g l) (hn:l.length=n) (hfit:n+4<=128) (hx:x<2 ^ (8*4)) :
  Calls Tryz.prog 208 #[.slice (some ⟨g,0,none⟩) n 128,.int .u64 (x:Int)] w fun e w'=>e=.returned (.slice (some ⟨g,0,none⟩) (n+4) 128)/\Pad w' g (l++putL x 4)/\Sh.Only (fun b=>b=g) w w':=by
 have hp:=hid (put_ok x 4 · (by decide) (by decide) hx)
 have hc4:=putL_length x 4
 have HC:=hid hc4
 have HN:=hid hn
 have HP:=hid h
 clear hc4 hn h hx
 generalize putL x 4=c at *
 go_enter Tryz.func208,Tryz.ntmps208
 go_wp2_with fail
 refine (hp.out _).mono ?_
 rintro e w1 ⟨v,rfl,hown,hb⟩
 rw [HC.out] at hown
 obtain ⟨ad,cc,rfl,hsrc⟩:=src_own hown (by decide)
 have h1:=HP.out.same (hb.block g HP.out.lt)
 have hO:=Sh.Only.of_below (F:=fun b=>b=g) hb (fun b h1 h2=>absurd h2 (by omega))
 clear hown hb
 go_wp2_with (refine append_pad rfl _ _ 40 rfl h1 rfl rfl (by rw [HC.out];exact hsrc) HN.out (by rw [HC.out];exact hfit) ?_;intro w2 h2 hO2)
 go_ret
 exact ⟨by rw [HC.out];rfl,h2,hO.trans hO2 (fun _ h=>.inl h)⟩
theorem pad_zero {w:World}:Pad (w.alloc (.cells (madeCells (Value.int .u8 0).cells 128) 5)) w.heap.size []:=by
 refine (heap_alloc_new w _).trans ?_
 have e:madeCells (Value.int .u8 0).cells 128=(bts ([]++List.replicate (128-([]:List Nat).length) 0)).toArray:=by
  have h1:(madeCells (Value.int .u8 0).cells 128).toList=List.replicate 128 (.int .u8 0):=toList_madeCells_one _ _
  rw [<- Array.toArray_toList (xs:=madeCells (Value.int .u8 0).cells 128),h1]
  simp [bts]
 rw [e]
theorem make_pad {ops:Array Oper} {rest:List Oper} {o:Oper} {a:Act} {Q:Exit->Act->World->Prop} {w:World} (hgd:o.guard=none) (l c:Operand) (hop:o.op=Op.makeSlice 40 l c)
  (hl:a.eval l=.int .i64 0) (hc:a.eval c=.int .i64 128)
  (hK:∀w',Pad w' w.heap.size []->Below w.heap.size w w'->wpList Tryz.prog ops Q rest (a.put o.dst (.slice (some ⟨w.heap.size,0,none⟩) 0 128)) w'):wpList Tryz.prog ops Q (o :: rest) a w:=by
 obtain ⟨i,hi,hz,hsz,hby⟩:=info_parts info_u8
 refine wpList_plain hgd fun K hK'=>?_
 have hrun:=run_make (P:=Tryz.prog) w 40 5 i (.int .u8 0) Tryz.underlying40 hi hz .i64 .i64 0 128 (by decide) (by decide) (by rw [hby];decide) (by decide)
 rw [hsz] at hrun
 unfold Oper.wp
 simp only [execOp,hop,hl,hc,Sem.run_bind,hrun,Result.andThen_ok]
 exact hK' _ _ (hK _ pad_zero ((Below.refl _ _).alloc (Nat.le_refl _) _))
def numF (a b z:Nat):Nat->Nat
 | 0=>a
 | 1=>b
 | _=>z
def Fresh (w:World) (l:List Nat) (v:Value) (w':World):Prop:=∃g,v=.slice (some ⟨g,0,none⟩) 128 128/\w.heap.size<=g/\w'.heap[g]?=some (.cells (bts l).toArray 5 (0,0))/\Below w.heap.size w w'
theorem Pad.more {w:World} {g:Nat} {l:List Nat} (h:Pad w g l) (k:Nat) (hk:l.length+k<=128):Pad w g (l++List.replicate k 0):=by
 unfold Pad at *
 rw [h,List.append_assoc,List.replicate_append_replicate,List.length_append,List.length_replicate]
 congr 6
 omega
theorem Pad.full {w:World} {g:Nat} {l:List Nat} (h:Pad w g l) (hl:l.length=128):w.heap[g]?=some (.cells (bts l).toArray 5 (0,0)):=by
 unfold Pad at h
 rw [hl] at h
 simpa using h
theorem Pad.reads {w:World} {g:Nat} {l:List Nat} (h:Pad w g l):Reads w w.heap.size (some ⟨g,0,none⟩) l.length (bts l):=by
 refine ⟨bts_length l,fun _=>⟨_,rfl,h.lt,fun j u hu=>?_⟩⟩
 have e:(⟨g,0,none⟩:Addr).add j=⟨g,j,none⟩:=by unfold Addr.add;split<;>simp_all
 have hj:j<(bts l).length:=by
  rcases Nat.lt_or_ge j (bts l).length with h | h
  ·exact h
  ·rw [List.getElem?_eq_none h] at hu;cases hu
 rw [e,cell_of_row _ _ j _ _ _ h,List.getElem?_toArray,bts_append,List.getElem?_append_left hj]
 exact hu
theorem src_sign {w:World}:Src Tryz.prog 1 9 (.string ⟨#[80,65,82,84]⟩) signL.length (bts signL) w:=Src.ofString w Tryz.underlying9 ⟨#[80,65,82,84]⟩
set_option maxRecDepth 20000 in
set_option maxHeartbeats 1000000 in
theorem headOf_any (a b:Nat) (ha:a<1024) (hb:b<15) (A:Option Addr) (c:Nat) (l:List Nat) (w:World) (hl:Small l) (hr:Reads w w.heap.size A 128 (bts l)) (hT:Tabs w) (hF:Flds w) :
  Calls Tryz.prog 201 #[.agg #[.int .i64 a,.int .i64 b,.slice A 128 c]] w fun e w'=>∃v,e=.returned v/\Fresh w (headL (numF a b (Nums.sum 0 l))) v w':=by
 have HN:=hid (fun w' (h:Below w.heap.size w w')=>numbersOf_any a b A 128 c l w' hl ((hr.below h).more h.size) (by decide) (hT.below hT.size h))
 have HF:=hid (fun w' (h:Below w.heap.size w w')=>hF.below hF.size h)
 have HT:=hid (fun w' (h:Below w.heap.size w w')=>hT.below hT.size h)
 have hz:Nums.sum 0 l<4294967296:=Nums.sum_lt hl (by decide)
 have wa:IntKind.u64.wrap (a:Int)=a:=by rw [IntKind.wrap_u64];omega
 have wb:IntKind.u64.wrap (b:Int)=b:=by rw [IntKind.wrap_u64];omega
 unfold numsV at HN
 rw [wa,wb] at HN
 generalize Nums.sum 0 l=z at *
 clear hl hr hT hF wa wb
 have hB0:Below w.heap.size w (w.alloc (.cells #[.int .i64 (a:Int),.int .i64 (b:Int),.slice A 128 c] 190)):=(Below.refl _ _).alloc (Nat.le_refl _) _
 have q0:=heap_alloc_new w (.cells #[.int .i64 (a:Int),.int .i64 (b:Int),.slice A 128 c] 190)
 have hz0:w.heap.size<(w.alloc (.cells #[.int .i64 (a:Int),.int .i64 (b:Int),.slice A 128 c] 190)).heap.size:=by simp
 have hsz:(w.alloc (.cells #[.int .i64 (a:Int),.int .i64 (b:Int),.slice A 128 c] 190)).heap.size=w.heap.size+1:=by simp
 have HSZ:=hid hsz
 clear hsz
 go_enter Tryz.func201,Tryz.ntmps201
 go_wp2_with (first
  | (at_make;refine make_pad rfl _ _ rfl rfl rfl ?_;intro w1 p1 b1)
  | (refine append_pad (c:=signL) rfl _ _ 9 rfl p1 rfl rfl src_sign rfl (by decide) ?_;intro w2 p2 o2;have q2:=(o2.block w.heap.size (Nat.lt_of_lt_of_le hz0 b1.size) (Nat.ne_of_lt hz0)).trans ((b1.block w.heap.size hz0).trans q0);obtain ⟨k0,k1,k2,_⟩:=cells3_of q2))
 generalize w.alloc (.cells #[.int .i64 (a:Int),.int .i64 (b:Int),.slice A 128 c] 190)=W0 at *
 have hB2:=only_row_below' (hB0.trans (b1.mono (Nat.le_of_lt hz0))) o2 (Nat.le_of_lt hz0) (Nat.le_refl _)
 have hs2:w.heap.size<w2.heap.size:=Nat.lt_of_lt_of_le hz0 (Nat.le_trans b1.size o2.size)
 have hg2:=p2.lt
 have hgl:=hid (Nat.le_of_lt hz0)
 rw [show []++signL=preK (numF a b z) 0 from rfl] at p2
 clear q0 hz0 hB0 p1 b1 o2 q2
 rw [HSZ.out] at hg2 p2 hgl
 clear HSZ
 generalize w.heap.size+1=g at *
 refine (HN.out w2 hB2).mono ?_
 rintro e w3 ⟨rfl,b3⟩
 have p3:=p2.same (b3.block g hg2)
 have hB3:=hB2.trans (b3.mono (Nat.le_of_lt hs2))
 clear k0 k1 k2 p2 hB2 hg2 hs2 b3 HN
 have i0:∀w,(Instr.index 264 (.agg #[.int .u64 (a:Int),.int .u64 (b:Int),.int .u64 (z:Int)]) (.int .i64 0)).run Tryz.prog w=.ok (.int .u64 (a:Int)) w:=fun _=>by kernel_rfl
 have i1:∀w,(Instr.index 264 (.agg #[.int .u64 (a:Int),.int .u64 (b:Int),.int .u64 (z:Int)]) (.int .i64 1)).run Tryz.prog w=.ok (.int .u64 (b:Int)) w:=fun _=>by kernel_rfl
 have i2:∀w,(Instr.index 264 (.agg #[.int .u64 (a:Int),.int .u64 (b:Int),.int .u64 (z:Int)]) (.int .i64 2)).run Tryz.prog w=.ok (.int .u64 (z:Int)) w:=fun _=>by kernel_rfl
 have HA:=hid (show a<2 ^ (8*4) by show a<4294967296;omega)
 have HB:=hid (show b<2 ^ (8*4) by show b<4294967296;omega)
 have HZ:=hid (show z<2 ^ (8*4) from hz)
 have HL:=hid (preK_length (numF a b z))
 clear ha hb hz
 go_wp2_with fail
 go_loopw [3,10] (fun s3 i wr=>∃k:Nat,k<=3/\i=.int .i64 k/\s3=.slice (some ⟨g,0,none⟩) (4+k*4) 128/\Pad wr g (preK (numF a b z) k)/\Below w.heap.size w wr) (fun _ i _=>3-(intOf i).toNat)
 case atStart=>exact ⟨0,by omega,rfl,rfl,p3,hB3⟩
 case round =>
  obtain ⟨k,hk,rfl,rfl,pr,hBr⟩:=hrel
  have fr:=(HF.out wr hBr).at_
  clear p3 hB3
  obtain rfl | rfl | rfl | rfl:k=0\/k=1\/k=2\/k=3:=by omega
  ·have f0:=fr 0 (by decide)
   clear fr
   go_wp2_with fail
   refine (appendNumber_any pr (HL.out 0) (by decide) HA.out).mono ?_
   rintro e w4 ⟨rfl,p4,o4⟩
   have hB4:=only_row_below' hBr o4 hgl.out (Nat.le_refl _)
   clear hBr o4 pr
   go_wp2_with fail
   go_roundw
   case rel=>exact ⟨1,by omega,rfl,rfl,p4,hB4⟩
   case measure=>simp [intOf]
  ·have f0:=fr 1 (by decide)
   clear fr
   go_wp2_with fail
   refine (appendNumber_any pr (HL.out 1) (by decide) HB.out).mono ?_
   rintro e w4 ⟨rfl,p4,o4⟩
   have hB4:=only_row_below' hBr o4 hgl.out (Nat.le_refl _)
   clear hBr o4 pr
   go_wp2_with fail
   go_roundw
   case rel=>exact ⟨2,by omega,rfl,rfl,p4,hB4⟩
   case measure=>simp [intOf]
  ·have f0:=fr 2 (by decide)
   clear fr
   go_wp2_with fail
   refine (appendNumber_any pr (HL.out 2) (by decide) HZ.out).mono ?_
   rintro e w4 ⟨rfl,p4,o4⟩
   have hB4:=only_row_below' hBr o4 hgl.out (Nat.le_refl _)
   clear hBr o4 pr
   go_wp2_with fail
   go_roundw
   case rel=>exact ⟨3,by omega,rfl,rfl,p4,hB4⟩
   case measure=>simp [intOf]
  ·clear fr
   have p5:Pad wr g (bodyL (numF a b z)):=pr.more 108 (by rw [HL.out];decide)
   have hT5:=HT.out wr hBr
   have hr5:=p5.reads
   rw [bodyL_length] at hr5
   have hln:=hid (bodyL_length (numF a b z))
   have hsm:=hid (bodyL_small (numF a b z))
   have hlt:=hid (body_sum_lt (numF a b z))
   have hhl:=hid (show headL (numF a b z)=bodyL (numF a b z)++putL (Nums.sum 0 (bodyL (numF a b z))) 4 from rfl)
   have hh8:=hid (headL_length (numF a b z))
   have wz:IntKind.u64.wrap ((Nums.sum 0 (bodyL (numF a b z)):Nat):Int)=((Nums.sum 0 (bodyL (numF a b z)):Nat):Int):=by
    have:=hlt.out
    generalize Nums.sum 0 (bodyL (numF a b z))=y at *
    rw [IntKind.wrap_u64];omega
   clear pr HL
   generalize hq:headL (numF a b z)=hL at *
   have HQ:=hid hq
   clear hq
   generalize bodyL (numF a b z)=bL at *
   go_wp2_with fail
   refine (crc_any (some ⟨g,0,none⟩) 124 128 wr.heap.size bL 0 wr (by decide) hsm.out hr5 (by decide) hT5).mono ?_
   rintro e w4 ⟨rfl,m,rfl⟩
   have p6:Pad (wr.drewN m) g bL:=p5
   have hB6:=drawn hBr m
   clear p5 hT5 hr5 hBr
   generalize Nums.sum 0 bL=y at *
   go_wp2_with fail
   refine (appendNumber_any p6 hln.out (by decide) hlt.out).mono ?_
   rintro e w5 ⟨rfl,p7,o7⟩
   have hB7:=only_row_below' hB6 o7 hgl.out (Nat.le_refl _)
   rw [<- hhl.out] at p7
   have r7:=p7.full hh8.out
   clear p6 hB6 p7 o7
   go_wp2_with fail
   go_ret
   exact ⟨_,rfl,g,rfl,hgl.out,by rw [HQ.out];exact r7,hB7⟩
theorem mayBe_any (s p:Int) (A:Option Addr) (n c:Nat) (l:List Nat) (w:World) (hl:Small l) (hr:Reads w w.heap.size A n (bts l)) (hn:n<=maxLen) (hT:Tabs w) (hF:Flds w) :
  Calls Tryz.prog 199 #[.agg #[.int .i64 s,.int .i64 p,.slice A n c]] w fun e w'=>e=.returned (.bool (mayB s p n))/\Below w.heap.size w w':=by
 by_cases h:n=128
 ·subst h
  exact mayBe_is s p A c l w hl hr hT hF
 ·have e:mayB s p n=false:=by unfold mayB;rw [decide_eq_false h];rfl
  rw [e]
  exact mayBe_len s p A n c w h hn
section
variable (s p:Int) (A:Option Addr) (n c:Nat) (l:List Nat) (w:World)
end
theorem encode_ok (a b:Nat) (ha:a<1024) (hb:b<15) (A:Option Addr) (c:Nat) (l:List Nat) (w:World) (hl:Small l) (hr:Reads w w.heap.size A 128 (bts l)) (hT:Tabs w) (hF:Flds w) :
  Calls Tryz.prog 206 #[.agg #[.int .i64 a,.int .i64 b,.slice A 128 c]] w fun e w'=>∃v,e=.returned (.tuple #[v,.int .i64 0])/\Fresh w (headL (numF a b (Nums.sum 0 l))) v w':=by
 have HM:=hid (fun w' (h:Below w.heap.size w w')=>mayBe_any a b A 128 c l w' hl ((hr.below h).more h.size) (by decide) (hT.below hT.size h) (hF.below hF.size h))
 have HH:=hid (fun w' (h:Below w.heap.size w w')=>headOf_any a b ha hb A c l w' hl ((hr.below h).more h.size) (hT.below hT.size h) (hF.below hF.size h))
 have hm:mayB (a:Int) (b:Int) 128=true:=(mayB_iff (by omega) (by omega)).2 ⟨rfl,by omega,by omega⟩
 rw [hm] at HM
 generalize headL (numF a b (Nums.sum 0 l))=hL at *
 clear hl hr hT hF hm
 have hB0:Below w.heap.size w (w.alloc (.cells #[.int .i64 (a:Int),.int .i64 (b:Int),.slice A 128 c] 190)):=(Below.refl _ _).alloc (Nat.le_refl _) _
 have q0:=heap_alloc_new w (.cells #[.int .i64 (a:Int),.int .i64 (b:Int),.slice A 128 c] 190)
 have hz0:w.heap.size<(w.alloc (.cells #[.int .i64 (a:Int),.int .i64 (b:Int),.slice A 128 c] 190)).heap.size:=by simp
 obtain ⟨k0,k1,k2,_⟩:=cells3_of q0
 go_enter Tryz.func206,Tryz.ntmps206
 go_wp2_with fail
 generalize w.alloc (.cells #[.int .i64 (a:Int),.int .i64 (b:Int),.slice A 128 c] 190)=W0 at *
 refine (HM.out W0 hB0).mono ?_
 rintro e w1 ⟨rfl,b1⟩
 have hB1:=hB0.trans (b1.mono (Nat.le_of_lt hz0))
 have q1:=(b1.block w.heap.size hz0).trans q0
 have hs1:=Nat.le_of_lt (Nat.lt_of_lt_of_le hz0 b1.size)
 clear k0 k1 k2 q0 b1 hB0 hz0
 obtain ⟨k0,k1,k2,_⟩:=cells3_of q1
 go_wp2_with fail
 refine (HH.out w1 hB1).mono ?_
 rintro e w2 ⟨v,rfl,g,rfl,hg,hrow,b2⟩
 have hB2:=hB1.trans (b2.mono hs1)
 clear b2 hB1 k0 k1 k2 q1
 go_wp2
 go_ret2
 exact ⟨_,rfl,g,rfl,Nat.le_trans hs1 hg,hrow,hB2⟩
def numAt (h:List Nat) (i:Nat):Nat:=if 4+i*4+4<=h.length then getN (cutAt h (4+i*4) 4) else 0
theorem numAt_lt {h:List Nat} (hs:Small h) (i:Nat):numAt h i<4294967296:=by
 unfold numAt
 split
 ·exact cutAt_lt hs _ 4
 ·decide
theorem numberAt_any (A:Option Addr) (n c:Nat) (h:List Nat) (i:Nat) (hi:i<3) (w:World) (hs:Small h) (hr:Reads w w.heap.size A n (bts h)) (hn:n<=maxLen) (hF:Flds w) :
  Calls Tryz.prog 198 #[.slice A n c,.int .i64 i] w fun e w'=>e=.returned (.int .i64 ((numAt h i:Nat):Int))/\w=w':=by
 have f0:=hF.at_ i hi
 have hl:=hr.len
 have hlt:=numAt_lt hs i
 have wz:IntKind.i64.wrap ((numAt h i:Nat):Int)=((numAt h i:Nat):Int):=by rw [IntKind.wrap_i64];omega
 have wi:(4+(i:Int)*4)=((4+i*4:Nat):Int):=by omega
 by_cases h4:4+i*4+4<=n
 ·have e:numAt h i=getN (cutAt h (4+i*4) 4):=by unfold numAt;rw [if_pos (by omega)]
  have HG:=hid (get_ok A n c w.heap.size h (4+i*4) 4 w (by decide) (by decide) hs hr hn h4)
  rw [<- e] at HG
  unfold Told at HG
  generalize numAt h i=z at *
  clear hr hF e hlt h4
  obtain ⟨x,hx⟩:∃x:Nat,4+i*4=x:=⟨_,rfl⟩
  rw [hx] at HG f0 wi
  clear hx
  go_enter Tryz.func198,Tryz.ntmps198
  go_wp2_with fail
  refine HG.out.mono ?_
  rintro e w' ⟨rfl,rfl⟩
  go_wp2
  go_ret
  exact ⟨rfl,rfl⟩
 ·have e:numAt h i=0:=by unfold numAt;rw [if_neg (by omega)]
  have HG:=hid (get_out A n c ((4+i*4:Nat):Int) 4 w (by decide) (by decide) hn (.inr ⟨by omega,by omega,by omega⟩))
  unfold Refused0 at HG
  rw [e]
  clear hr hF e wz hlt h4
  obtain ⟨x,hx⟩:∃x:Nat,4+i*4=x:=⟨_,rfl⟩
  rw [hx] at HG f0 wi
  clear hx
  go_enter Tryz.func198,Tryz.ntmps198
  go_wp2_with fail
  refine HG.out.mono ?_
  rintro e w' ⟨rfl,rfl⟩
  go_wp2
  go_ret
  exact ⟨rfl,rfl⟩
theorem strL_inj {l m:Sh.Bs} (hl:Small l) (hm:Small m) (h:Sh.strL l=Sh.strL m):l=m:=by
 have h1:=congrArg (fun s:ByteArray=>s.data.toList) h
 simp only [Sh.strL_data] at h1
 have h2:∀a:List Nat,Small a->(a.map fun x=>UInt8.ofNat x).map (fun (x:UInt8)=>x.toNat)=a:=by
  intro a ha
  rw [List.map_map]
  conv=>rhs;rw [<- List.map_id a]
  apply List.map_congr_left
  intro x hx
  have:=ha x hx
  simp [UInt8.toNat_ofNat',Nat.mod_eq_of_lt this]
 rw [<- h2 l hl,<- h2 m hm,h1]
theorem str_eq {l k:Sh.Bs} (hl:Small l) (hk:Small k):((Sh.strL k).toList == (Sh.strL l).toList)=decide (k=l):=by
 rw [ByteArray.toList_eq,ByteArray.toList_eq]
 by_cases h:k=l
 ·subst h;simp
 ·have h2:(Sh.strL k).data.toList≠(Sh.strL l).data.toList:=fun e=>h (strL_inj hk hl (by
   have e2:(Sh.strL k).data=(Sh.strL l).data:=Array.ext' e
   cases hA:Sh.strL k
   cases hB:Sh.strL l
   rw [hA,hB] at e2
   simp only at e2
   rw [e2]))
  rw [decide_eq_false h]
  exact beq_eq_false_iff_ne.2 h2
theorem equal_any (A B:Option Addr) (n c m d:Nat) (l k:List Nat) (w:World) (hl:Small l) (hk:Small k) (hr:Reads w w.heap.size A n (bts l)) (hq:Reads w w.heap.size B m (bts k)) :
  Calls Tryz.prog 200 #[.slice A n c,.slice B m d] w fun e w'=>e=.returned (.bool (decide (l=k)))/\w=w':=by
 have h1:=Sh.run_str c hr
 have h2:=Sh.run_str d hq
 have he:=str_eq hk hl
 have HE:=hid he
 clear he hr hq
 generalize Sh.strL l=s at *
 generalize Sh.strL k=t at *
 go_enter Tryz.func200,Tryz.ntmps200
 go_wp2
 go_ret
 exact ⟨by rw [<- HE.out];rfl,rfl⟩
set_option maxRecDepth 20000 in
theorem clone_any (ad:Addr) (c:Nat) (l:List Nat) (w:World) (hr:Reads w w.heap.size (some ad) 128 (bts l)) :
  Calls Tryz.prog 202 #[.slice (some ad) 128 c] w fun e w'=>∃v,e=.returned v/\w'.ownsRow w.heap.size 5 1 v 128 (bts l)/\Below w.heap.size w w':=by
 obtain ⟨i0,hi,hz0,hz1,hz2⟩:=info_parts info_u8
 have q22:∀(w:World) (a:Option Addr) (n c n' c':Nat),(binOp .eql 40 (.slice a n c) (.slice none n' c')).run Tryz.prog w=.ok (.bool a.isNone) w:=fun w a n c n' c'=>Lib.run_eql_slice_nil w _ _ a n c n' c' Tryz.underlying40
 have hl:=hr.1
 obtain ⟨_,e0,hlt,hc⟩:=hr.2 (by decide)
 injection e0 with e0
 subst e0
 have A:Aside (∀j u,(bts l)[j]?=some u->w.cell? (ad.add j)=some u):=hc
 clear hc hr
 go_enter Tryz.func202,Tryz.ntmps202
 go_wp2_with (at_builtin;refine wpList_append_own _ rfl _ _ 40 rfl w.heap.size 5 i0 (.int .u8 0) 1 1 Tryz.underlying40 hi hz0 hz1 hz2 rfl (by decide) _ _ _ rfl (World.ownsRow_made w #[] 0 (Nat.le_refl _) (Nat.zero_le _) rfl) ad 128 c (bts l) rfl ?qc1 ?qc2 ?qc3 ?qc4 ?qc5 ?qc6 ?_)
 case qc1=>simpa using hl
 case qc2 =>
  intro j u hj
  rw [World.cell?_alloc_lt _ _ _ (by rw [block_of_add];exact hlt)]
  exact A.out j u hj
 case qc3=>exact bts_one l
 case qc4=>decide
 case qc5=>decide
 case qc6=>simp
 intro v' w1 hown hgrow hnil
 go_wp2
 go_ret
 exact ⟨v',rfl,by simpa using hown,((Below.refl _ w).alloc (Nat.le_refl _) _).grown hgrow (by simp) (by intro k hk;simp [Value.ownBlock] at hk;omega)⟩
theorem cells_set {w:World} {b i:Nat} {c:Array Value} {t:TypeId} (v:Value) (h:w.heap[b]?=some (.cells c t (0,0))):(w.setCell ⟨b,i,none⟩ v).heap[b]?=some (.cells (c.setIfInBounds i v) t (0,0)):=heap_setCell_same w b i c t v h
noncomputable def put3 (w:World) (g:Nat) (a0 a1 a2:Value):World:=((w.setCell ⟨g,0,none⟩ a0).setCell ⟨g,1,none⟩ a1).setCell ⟨g,2,none⟩ a2
theorem put3_row {w:World} {g:Nat} {t:TypeId} {v0 v1 v2:Value} (h:w.heap[g]?=some (.cells #[v0,v1,v2] t (0,0))) (a0 a1 a2:Value) :
  (put3 w g a0 a1 a2).heap[g]?=some (.cells #[a0,a1,a2] t (0,0)):=by
 have h0:(w.setCell ⟨g,0,none⟩ a0).heap[g]?=some (.cells #[a0,v1,v2] t (0,0)):=cells_set (i:=0) a0 h
 have h1:((w.setCell ⟨g,0,none⟩ a0).setCell ⟨g,1,none⟩ a1).heap[g]?=some (.cells #[a0,a1,v2] t (0,0)):=cells_set (i:=1) a1 h0
 exact cells_set (i:=2) a2 h1
theorem put3_below {B:Nat} {w0 w:World} {g:Nat} (h:Below B w0 w) (hg:B<=g) (a0 a1 a2:Value):Below B w0 (put3 w g a0 a1 a2) :=
 ((h.setCell (p:=⟨g,0,none⟩) hg a0).setCell (p:=⟨g,1,none⟩) hg a1).setCell (p:=⟨g,2,none⟩) hg a2
theorem put3_only (w:World) (g:Nat) (a0 a1 a2:Value):Sh.Only (fun b=>b=g) w (put3 w g a0 a1 a2) :=
 (((Sh.Only.refl (fun b=>b=g) w).setCell (p:=⟨g,0,none⟩) (.inl rfl) a0).setCell (p:=⟨g,1,none⟩) (.inl rfl) a1).setCell (p:=⟨g,2,none⟩) (.inl rfl) a2
theorem store3_0 {w:World} {g:Nat} {t:TypeId} {v0 v1 v2:Value} (h:w.heap[g]?=some (.cells #[v0,v1,v2] t (0,0))) (a:Value) (ha:a.oneCell'=true) :
  (store ⟨g,0,none⟩ a).run Tryz.prog w=.ok () (w.setCell ⟨g,0,none⟩ a):=by
 obtain ⟨k0,_,_,f⟩:=cells3_of h
 rw [run_store _ _ _ _ _ ha,k0]
 simp only [f 0]
 rfl
theorem own_low {w:World} {base base' n:Nat} {v:Value} {xs:List Value} (h:w.ownsRow base 5 1 v n xs) (hb:base'<=base):w.ownsRow base' 5 1 v n xs :=
 ⟨h.1,h.2.imp id fun ⟨g,cap,cur,hv,hg,r⟩=>⟨g,cap,cur,hv,Nat.le_trans hb hg,r⟩⟩
theorem load_rec {w:World} {g:Nat} {v0 v1 v2:Value} (h:w.heap[g]?=some (.cells #[v0,v1,v2] 190 (0,0))):(loadVar 190 ⟨g,0,none⟩).run Tryz.prog w=.ok (.agg #[v0,v1,v2]) w :=
 run_loadVar_row (P:=Tryz.prog) _ g 190 190 _ (0,0) _ h Tryz.underlying190 rfl info_record
def headOf (h l:List Nat):List Nat:=headL (numF (numAt h 0) (numAt h 1) (Nums.sum 0 l))
def okD (h l:List Nat) (n:Nat):Bool:=mayB (numAt h 0) (numAt h 1) n && decide (h=headOf h l)
theorem headOf_mb (a b:Nat) (la:a<4294967296) (lb:b<4294967296) (A:Option Addr) (n c:Nat) (l:List Nat) (w:World) (hm:mayB a b n=true) (hl:Small l) (hr:Reads w w.heap.size A n (bts l)) (hT:Tabs w) (hF:Flds w) :
  Calls Tryz.prog 201 #[.agg #[.int .i64 a,.int .i64 b,.slice A n c]] w fun e w'=>∃v,e=.returned v/\Fresh w (headL (numF a b (Nums.sum 0 l))) v w':=by
 obtain ⟨rfl,ha,hb⟩:=(mayB_iff (by omega) (by omega)).1 hm
 exact headOf_any a b (by omega) (by omega) A c l w hl hr hT hF
set_option maxRecDepth 20000 in
set_option maxHeartbeats 1000000 in
theorem decode_no (A B:Option Addr) (m c n d:Nat) (h l:List Nat) (w:World) (hh:Small h) (hl:Small l) (hr:Reads w w.heap.size A m (bts h)) (hq:Reads w w.heap.size B n (bts l)) (hm:m<=maxLen) (hn:n<=maxLen) (hT:Tabs w) (hF:Flds w) (hok:okD h l n=false) :
  Calls Tryz.prog 173 #[.slice A m c,.slice B n d] w fun e w'=>e=.returned (.tuple #[.agg #[.int .i64 0,.int .i64 0,.slice none 0 0],.int .i64 8])/\Below w.heap.size w w':=by
 have HA:=hid (fun i hi w' (hb:Below w.heap.size w w')=>numberAt_any A m c h i hi w' hh ((hr.below hb).more hb.size) hm (hF.below hF.size hb))
 have HM:=hid (fun w' (hb:Below w.heap.size w w')=>mayBe_any (numAt h 0) (numAt h 1) B n d l w' hl ((hq.below hb).more hb.size) hn (hT.below hT.size hb) (hF.below hF.size hb))
 have H0:=hid (HA.out 0 (by decide))
 have H1:=hid (HA.out 1 (by decide))
 clear HA
 have la:=numAt_lt hh 0
 have lb:=numAt_lt hh 1
 unfold okD headOf at hok
 generalize numAt h 0=a at *
 generalize numAt h 1=b at *
 have hb0:Below w.heap.size w (w.alloc (.cells #[.int .i64 0,.int .i64 0,.slice none 0 0] 190)):=(Below.refl _ _).alloc (Nat.le_refl _) _
 obtain ⟨q0,q1,hz,hB⟩:=two_new' w #[.int .i64 0,.int .i64 0,.slice none 0 0] #[.int .i64 a,.int .i64 b,.slice B n d] 190 190
 have Q0:=hid q0
 have Q1:=hid q1
 have HZ:=hid hz
 have HB:=hid hB
 have HH:=hid (fun hmb w' (hb:Below w.heap.size w w')=>headOf_mb a b la lb B n d l w' hmb hl ((hq.below hb).more hb.size) (hT.below hT.size hb) (hF.below hF.size hb))
 clear q0 q1 hz hB hT hF
 go_enter Tryz.func173,Tryz.ntmps173
 go_wp2_with fail
 refine (H0.out _ hb0).mono ?_
 rintro e w1 ⟨rfl,rfl⟩
 go_wp2_with fail
 refine (H1.out _ hb0).mono ?_
 rintro e w1 ⟨rfl,rfl⟩
 clear hb0
 go_wp2_with fail
 generalize (w.alloc (.cells #[.int .i64 0,.int .i64 0,.slice none 0 0] 190)).alloc (.cells #[.int .i64 a,.int .i64 b,.slice B n d] 190)=W2 at *
 refine (HM.out W2 HB.out).mono ?_
 rintro e w3 ⟨rfl,b3⟩
 have q0:=(b3.block w.heap.size (by have:=HZ.out;omega)).trans Q0.out
 have q1:=(b3.block (w.heap.size+1) (by have:=HZ.out;omega)).trans Q1.out
 have hB3:=HB.out.trans (b3.mono (by have:=HZ.out;omega))
 have hz3:w.heap.size+1<w3.heap.size:=Nat.lt_of_lt_of_le (by have:=HZ.out;omega) b3.size
 have HB3:=hid hB3
 have HZ3:=hid hz3
 clear b3 hB3 hz3 HB Q0 Q1 HZ
 cases hmb:mayB (a:Int) (b:Int) n
 ·obtain ⟨k0,k1,k2,f⟩:=cells3_of q0
  have f0:=f 0
  have f1:=f 1
  have f2:=f 2
  have s0:=store3_0 q0 (.int .i64 0) (by rfl)
  have HROW:=hid (put3_row q0 (.int .i64 0) (.int .i64 0) (.slice none 0 0))
  have HLV:=hid (load_rec HROW.out)
  have HBE:=hid (put3_below (g:=w.heap.size) HB3.out (Nat.le_refl _) (.int .i64 0) (.int .i64 0) (.slice none 0 0))
  clear q0 q1 f hok
  go_wp2_with fail
  refine bodyPost_ret (results_cell2 (g:=w.heap.size) Tryz.results173 rfl HLV.out rfl) rfl ?_
  exact ⟨rfl,HBE.out⟩
 ·have hne:decide (h=headL (numF a b (Nums.sum 0 l)))=false:=by rw [hmb,Bool.true_and] at hok;exact hok
  have HHL:=hid (headL_small (numF a b (Nums.sum 0 l)))
  have HLN:=hid (headL_length (numF a b (Nums.sum 0 l)))
  have HH1:=hid (HH.out hmb w3 HB3.out)
  generalize headL (numF a b (Nums.sum 0 l))=hL at *
  have HNE:=hid hne
  clear hok hne hmb HH
  obtain ⟨k0,k1,k2,_⟩:=cells3_of q1
  go_wp2_with fail
  refine HH1.out.mono ?_
  rintro e w4 ⟨v,rfl,g,rfl,hg,hrow,b4⟩
  have q2:=hid ((b4.block w.heap.size (Nat.lt_of_succ_lt HZ3.out)).trans q0)
  have HB4:=hid (HB3.out.trans (b4.mono (Nat.le_of_lt (Nat.lt_of_succ_lt HZ3.out))))
  have hlt:g<w4.heap.size:=(Array.getElem?_eq_some_iff.1 hrow).1
  have hr4:=(hr.below HB4.out).more HB4.out.size
  have hr5:Reads w4 w4.heap.size (some ⟨g,0,none⟩) 128 (bts hL):=by
   refine ⟨by rw [bts_length,HLN.out],fun _=>⟨_,rfl,hlt,fun j u hu=>?_⟩⟩
   have e:(⟨g,0,none⟩:Addr).add j=⟨g,j,none⟩:=by unfold Addr.add;split<;>simp_all
   rw [e,cell_of_row _ _ j _ _ _ hrow,List.getElem?_toArray]
   exact hu
  have HE:=hid (equal_any A (some ⟨g,0,none⟩) m c 128 128 h hL w4 hh HHL.out hr4 hr5)
  rw [HNE.out] at HE
  clear k0 k1 k2 q1 q0 b4 hr4 hr5 hrow hlt hr hq
  go_wp2_with fail
  refine HE.out.mono ?_
  rintro e w5 ⟨rfl,rfl⟩
  have q0:=q2.out
  obtain ⟨k0,k1,k2,f⟩:=cells3_of q0
  have f0:=f 0
  have f1:=f 1
  have f2:=f 2
  have s0:=store3_0 q0 (.int .i64 0) (by rfl)
  have HROW:=hid (put3_row q0 (.int .i64 0) (.int .i64 0) (.slice none 0 0))
  have HLV:=hid (load_rec HROW.out)
  have HBE:=hid (put3_below (g:=w.heap.size) HB4.out (Nat.le_refl _) (.int .i64 0) (.int .i64 0) (.slice none 0 0))
  clear q0 f
  go_wp2_with fail
  refine bodyPost_ret (results_cell2 (g:=w.heap.size) Tryz.results173 rfl HLV.out rfl) rfl ?_
  exact ⟨rfl,HBE.out⟩
set_option maxRecDepth 20000 in
set_option maxHeartbeats 1000000 in
theorem decode_yes (A:Option Addr) (ad:Addr) (m c d:Nat) (h l:List Nat) (w:World) (hh:Small h) (hl:Small l) (hr:Reads w w.heap.size A m (bts h)) (hq:Reads w w.heap.size (some ad) 128 (bts l)) (hm:m<=maxLen) (hT:Tabs w) (hF:Flds w) (hok:okD h l 128=true) :
  Calls Tryz.prog 173 #[.slice A m c,.slice (some ad) 128 d] w fun e w'=>∃v,e=.returned (.tuple #[.agg #[.int .i64 (numAt h 0:Nat),.int .i64 (numAt h 1:Nat),v],.int .i64 0])/\w'.ownsRow w.heap.size 5 1 v 128 (bts l)/\Below w.heap.size w w':=by
 have HA:=hid (fun i hi w' (hb:Below w.heap.size w w')=>numberAt_any A m c h i hi w' hh ((hr.below hb).more hb.size) hm (hF.below hF.size hb))
 have HM:=hid (fun w' (hb:Below w.heap.size w w')=>mayBe_any (numAt h 0) (numAt h 1) (some ad) 128 d l w' hl ((hq.below hb).more hb.size) (by decide) (hT.below hT.size hb) (hF.below hF.size hb))
 have H0:=hid (HA.out 0 (by decide))
 have H1:=hid (HA.out 1 (by decide))
 clear HA
 have la:=numAt_lt hh 0
 have lb:=numAt_lt hh 1
 unfold okD headOf at hok
 generalize numAt h 0=a at *
 generalize numAt h 1=b at *
 have hb0:Below w.heap.size w (w.alloc (.cells #[.int .i64 0,.int .i64 0,.slice none 0 0] 190)):=(Below.refl _ _).alloc (Nat.le_refl _) _
 obtain ⟨q0,q1,hz,hB⟩:=two_new' w #[.int .i64 0,.int .i64 0,.slice none 0 0] #[.int .i64 a,.int .i64 b,.slice (some ad) 128 d] 190 190
 have Q0:=hid q0
 have Q1:=hid q1
 have HZ:=hid hz
 have HB:=hid hB
 have HH:=hid (fun hmb w' (hb:Below w.heap.size w w')=>headOf_mb a b la lb (some ad) 128 d l w' hmb hl ((hq.below hb).more hb.size) (hT.below hT.size hb) (hF.below hF.size hb))
 clear q0 q1 hz hB hT hF
 go_enter Tryz.func173,Tryz.ntmps173
 go_wp2_with fail
 refine (H0.out _ hb0).mono ?_
 rintro e w1 ⟨rfl,rfl⟩
 go_wp2_with fail
 refine (H1.out _ hb0).mono ?_
 rintro e w1 ⟨rfl,rfl⟩
 clear hb0
 go_wp2_with fail
 generalize (w.alloc (.cells #[.int .i64 0,.int .i64 0,.slice none 0 0] 190)).alloc (.cells #[.int .i64 a,.int .i64 b,.slice (some ad) 128 d] 190)=W2 at *
 refine (HM.out W2 HB.out).mono ?_
 rintro e w3 ⟨rfl,b3⟩
 have q0:=(b3.block w.heap.size (by have:=HZ.out;omega)).trans Q0.out
 have q1:=(b3.block (w.heap.size+1) (by have:=HZ.out;omega)).trans Q1.out
 have hB3:=HB.out.trans (b3.mono (by have:=HZ.out;omega))
 have hz3:w.heap.size+1<w3.heap.size:=Nat.lt_of_lt_of_le (by have:=HZ.out;omega) b3.size
 have HB3:=hid hB3
 have HZ3:=hid hz3
 clear b3 hB3 hz3 HB Q0 Q1 HZ
 have hmb:mayB (a:Int) (b:Int) 128=true:=(Bool.and_eq_true_iff.1 hok).1
 have hne:=of_decide_eq_true (Bool.and_eq_true_iff.1 hok).2
 rw [hmb]
 have HHL:=hid (headL_small (numF a b (Nums.sum 0 l)))
 have HLN:=hid (headL_length (numF a b (Nums.sum 0 l)))
 have HH1:=hid (HH.out hmb w3 HB3.out)
 generalize headL (numF a b (Nums.sum 0 l))=hL at *
 have HNE:=hid hne
 clear hok hne hmb HH
 obtain ⟨k0,k1,k2,_⟩:=cells3_of q1
 go_wp2_with fail
 refine HH1.out.mono ?_
 rintro e w4 ⟨v,rfl,g,rfl,hg,hrow,b4⟩
 have q2:=(b4.block w.heap.size (Nat.lt_of_succ_lt HZ3.out)).trans q0
 have q3:=(b4.block (w.heap.size+1) HZ3.out).trans q1
 have HB4:=hid (HB3.out.trans (b4.mono (Nat.le_of_lt (Nat.lt_of_succ_lt HZ3.out))))
 have HZ4:=hid (Nat.lt_of_lt_of_le HZ3.out b4.size)
 have hlt:g<w4.heap.size:=(Array.getElem?_eq_some_iff.1 hrow).1
 have hr4:=(hr.below HB4.out).more HB4.out.size
 have hr5:Reads w4 w4.heap.size (some ⟨g,0,none⟩) 128 (bts hL):=by
  refine ⟨by rw [bts_length,HLN.out],fun _=>⟨_,rfl,hlt,fun j u hu=>?_⟩⟩
  have e:(⟨g,0,none⟩:Addr).add j=⟨g,j,none⟩:=by unfold Addr.add;split<;>simp_all
  rw [e,cell_of_row _ _ j _ _ _ hrow,List.getElem?_toArray]
  exact hu
 have HE:=hid (equal_any A (some ⟨g,0,none⟩) m c 128 128 h hL w4 hh HHL.out hr4 hr5)
 rw [decide_eq_true HNE.out] at HE
 have HC:=hid (clone_any ad d l w4 ((hq.below HB4.out).more HB4.out.size))
 have Q2:=hid q2
 have Q3:=hid q3
 clear k0 k1 k2 q1 q0 b4 hr4 hr5 hrow hlt hr hq q2 q3
 go_wp2_with fail
 refine HE.out.mono ?_
 rintro e w5 ⟨rfl,rfl⟩
 go_wp2_with fail
 refine HC.out.mono ?_
 rintro e w6 ⟨v,rfl,own6,b6⟩
 obtain ⟨A6,c6,rfl,_,_,_⟩:=own_shape own6
 have q2:=(b6.block w.heap.size (Nat.lt_of_succ_lt HZ4.out)).trans Q2.out
 have q3:=(b6.block (w.heap.size+1) HZ4.out).trans Q3.out
 have HB6:=hid (HB4.out.trans (b6.mono HB4.out.size))
 obtain ⟨j0,j1,j2,jf⟩:=cells3_of q3
 have j2f:=jf 2
 have hne2:w.heap.size≠w.heap.size+1:=by omega
 have O7:Sh.Only (fun b=>b=w.heap.size+1) w6 (w6.setCell ⟨w.heap.size+1,2,none⟩ (.slice A6 128 c6)):=(Sh.Only.refl (fun b=>b=w.heap.size+1) w6).setCell (p:=⟨w.heap.size+1,2,none⟩) (.inl rfl) _
 have r3:(w6.setCell ⟨w.heap.size+1,2,none⟩ (.slice A6 128 c6)).heap[w.heap.size+1]?=some (.cells #[.int .i64 a,.int .i64 b,.slice A6 128 c6] 190 (0,0)):=cells_set (i:=2) (.slice A6 128 c6) q3
 have hz6:w.heap.size+1<w6.heap.size:=Nat.lt_of_lt_of_le HZ4.out b6.size
 have r2:=(O7.block w.heap.size (Nat.lt_of_succ_lt hz6) hne2).trans q2
 have hlb:∀x,(Value.slice A6 128 c6).ownBlock=some x->w4.heap.size<=x:=fun x hx=>(own6.lt x hx).1
 have own7:(w6.setCell ⟨w.heap.size+1,2,none⟩ (.slice A6 128 c6)).ownsRow w.heap.size 5 1 (.slice A6 128 c6) 128 (bts l) :=
  own_low (Sh.same_row own6 (fun x hx=>O7.block x (own6.lt x hx).2 (by have:=hlb x hx;have:=HZ4.out;omega))) HB4.out.size
 have B7:=HB6.out.setCell (p:=⟨w.heap.size+1,2,none⟩) (Nat.le_succ _) (.slice A6 128 c6)
 have s1:=store3_0 r2 (.int .i64 (a:Int)) (by rfl)
 have O8:=put3_only (w6.setCell ⟨w.heap.size+1,2,none⟩ (.slice A6 128 c6)) w.heap.size (.int .i64 a) (.int .i64 b) (.slice A6 128 c6)
 have hz7:w4.heap.size<=(w6.setCell ⟨w.heap.size+1,2,none⟩ (.slice A6 128 c6)).heap.size:=Nat.le_trans b6.size O7.size
 have OWN:=hid (Sh.same_row own7 (fun x hx=>O8.block x ((own7.lt x hx).2) (by have:=hlb x hx;have:=HZ4.out;omega)))
 have HROW:=hid (put3_row r2 (.int .i64 a) (.int .i64 b) (.slice A6 128 c6))
 have HLV:=hid (load_rec HROW.out)
 have HBE:=hid (put3_below (g:=w.heap.size) B7 (Nat.le_refl _) (.int .i64 a) (.int .i64 b) (.slice A6 128 c6))
 obtain ⟨i0,i1,i2,_⟩:=cells3_of r3
 obtain ⟨k0,k1,k2,f⟩:=cells3_of r2
 have f0:=f 0
 have f1:=f 1
 have f2:=f 2
 clear jf b6 q2 q3 r2 r3 O7 O8 own6 own7 hlb B7 hz6 hz7 f
 go_wp2_with fail
 refine bodyPost_ret (results_cell2 (g:=w.heap.size) Tryz.results173 rfl HLV.out rfl) rfl ?_
 exact ⟨_,rfl,OWN.out,HBE.out⟩
theorem heap_alloc_last (w:World) (o:Obj):(w.alloc o).heap[w.heap.size]?=some o:=by
 show (w.heap.push o)[w.heap.size]?=some o
 simp
theorem add_plain (g o j:Nat):(⟨g,o,none⟩:Addr).add j=⟨g,o+j,none⟩:=by unfold Addr.add;split<;>simp_all
def DecIs (ok:Bool) (a b n:Nat) (l:List Nat) (w:World) (e:Ending) (w':World):Prop :=
 (ok=false/\e=.returned (.tuple #[.agg #[.int .i64 0,.int .i64 0,.slice none 0 0],.int .i64 8])/\Below w.heap.size w w') \/
 (ok=true/\∃v,e=.returned (.tuple #[.agg #[.int .i64 a,.int .i64 b,v],.int .i64 0])/\w'.ownsRow w.heap.size 5 1 v n (bts l)/\Below w.heap.size w w')
section
variable (A B:Option Addr) (m c n d:Nat) (h l:List Nat) (w:World)
theorem decode_any (hh:Small h) (hl:Small l) (hr:Reads w w.heap.size A m (bts h)) (hq:Reads w w.heap.size B n (bts l)) (hm:m<=maxLen) (hn:n<=maxLen) (hT:Tabs w) (hF:Flds w) :
  Calls Tryz.prog 173 #[.slice A m c,.slice B n d] w (DecIs (okD h l n) (numAt h 0) (numAt h 1) n l w):=by
 cases hok:okD h l n
 ·refine (decode_no A B m c n d h l w hh hl hr hq hm hn hT hF hok).mono ?_
  rintro e w' ⟨rfl,hb⟩
  exact .inl ⟨rfl,rfl,hb⟩
 ·have la:=numAt_lt hh 0
  have lb:=numAt_lt hh 1
  have hmb:mayB (numAt h 0) (numAt h 1) n=true:=(Bool.and_eq_true_iff.1 hok).1
  obtain ⟨rfl,_,_⟩:=(mayB_iff (by omega) (by omega)).1 hmb
  obtain ⟨ad,rfl,_,_⟩:=hq.2 (by decide)
  refine (decode_yes A ad m c d h l w hh hl hr hq hm hT hF hok).mono ?_
  rintro e w' ⟨v,rfl,h1,h2⟩
  exact .inr ⟨rfl,v,rfl,h1,h2⟩
end
end Go.Proofs.YtepoepmndckmaaaGreatDoor.U
