/-
  What the statement's proof rests on, part 18.
  Conditions: each theorem's own.
-/
import Derived.Test.YtcnjpmcelihknaaGreatDoorV15
import Derived.ChangeKeysEq
import Derived.Laws.StructEq
import Derived.Test.YtcnjpmcelihknaaGreatDoorVtk
open Go.Lib (hid)
namespace Go.Proofs.YtcnjpmcelihknaaGreatDoor.U
open Go.RowKit Go.Maps
theorem u32_plain:Tryz.prog.plainKey 23=true:=by kernel_rfl
theorem cells_u32:Tryz.prog.cellsOf 23=1:=by kernel_rfl
theorem u8_plain:Tryz.prog.plainKey 5=true:=by kernel_rfl
theorem cells_u8:Tryz.prog.cellsOf 5=1:=by kernel_rfl
def zcB:Array Value:=(List.replicate 128 (Value.int .u8 0)).toArray
theorem zcB_bts:zcB=(bts Sh.noughts).toArray:=by simp [zcB,bts,Sh.noughts]
theorem zcB_ne:zcB≠#[]:=fun h=>by have:=congrArg Array.size h;simp [zcB] at this
theorem zero_bytes:∀w,(zeroValue 147).run Tryz.prog w=.ok (.agg zcB) w:=fun w=>by kernel_rfl
theorem eqItems_bytes (w:World) (d:Nat) (l k:List Nat):∀is:List Nat,(∀i∈is,i<l.length/\i<k.length) ->
  (Op.eqItems (d+1) 5 1 (bts l).toArray (bts k).toArray is).run Tryz.prog w=.ok (is.all fun i=>l.getD i 0 == k.getD i 0) w
 | [],_=>by simp [Op.eqItems]
 | i :: is,h=>by
  have h1:=h i (by simp)
  have a:(bts l).toArray[i*1]?=some (.int .u8 ((l.getD i 0:Nat):Int)):=by rw [Nat.mul_one,List.getElem?_toArray];exact bts_get l i h1.1
  have b:(bts k).toArray[i*1]?=some (.int .u8 ((k.getD i 0:Nat):Int)):=by rw [Nat.mul_one,List.getElem?_toArray];exact bts_get k i h1.2
  have p1:=run_part_plain (P:=Tryz.prog) (w:=w) u8_plain a
  have p2:=run_part_plain (P:=Tryz.prog) (w:=w) u8_plain b
  have ih:=eqItems_bytes w d l k is (fun j hj=>h j (List.mem_cons_of_mem _ hj))
  have e1:=run_equalIn_int (P:=Tryz.prog) w d 5 .u8 .u8 ((l.getD i 0:Nat):Int) ((k.getD i 0:Nat):Int) Tryz.underlying5
  have e2:(((l.getD i 0:Nat):Int) == ((k.getD i 0:Nat):Int))=(l.getD i 0 == k.getD i 0):=by
   rw [Bool.eq_iff_iff,beq_iff_eq,beq_iff_eq];omega
  rw [e2] at e1
  simp only [Op.eqItems,Sem.run_bind,p1,p2,e1,Result.andThen_ok,List.all_cons]
  by_cases hq:(l.getD i 0 == k.getD i 0)=true
  ·rw [hq]
   simpa using ih
  ·rw [Bool.not_eq_true] at hq
   rw [hq]
   simp
theorem all_eq {l k:List Nat} (hl:l.length=128) (hk:k.length=128):((List.range 128).all fun i=>l.getD i 0 == k.getD i 0)=(l == k):=by
 rw [Bool.eq_iff_iff,beq_iff_eq,List.all_eq_true]
 constructor
 ·intro h
  apply List.ext_getElem (by omega)
  intro i h1 h2
  have:=h i (List.mem_range.2 (by omega))
  rw [beq_iff_eq] at this
  simpa [List.getD,List.getElem?_eq_getElem h1,List.getElem?_eq_getElem h2] using this
 ·rintro rfl i _
  simp
theorem info_arr:∃i,Tryz.prog.info? 5=some i:=info_of_underlying Tryz.underlying5
theorem arr_equal (w:World) (d:Nat) {l k:List Nat} (hl:l.length=128) (hk:k.length=128) :
  (Op.equalIn (d+2) 147 (.agg (bts l).toArray) (.agg (bts k).toArray)).run Tryz.prog w=.ok (l == k) w:=by
 obtain ⟨i,hi⟩:=info_arr
 rw [run_equalIn_array w (d+1) (bts l).toArray (bts k).toArray Tryz.underlying147 hi,cells_u8,eqItems_bytes w d l k (List.range 128) (fun j hj=>by have:=List.mem_range.1 hj;omega),all_eq hl hk]
theorem arr_eql (w:World) {l k:List Nat} (hl:l.length=128) (hk:k.length=128):(Op.equalIn 10000 147 (.agg (bts l).toArray) (.agg (bts k).toArray)).run Tryz.prog w=.ok (l == k) w:=arr_equal w 9998 hl hk
theorem eqItems_two (w:World) (d x y:Nat):(Op.eqItems (d+1) 23 1 #[.int .u32 (x:Int),.int .u32 (y:Int)] #[.int .u32 0,.int .u32 0] [0,1]).run Tryz.prog w=.ok (x == 0 && y == 0) w:=by
 have p0:=run_part_plain (P:=Tryz.prog) (w:=w) u32_plain (show (#[.int .u32 (x:Int),.int .u32 (y:Int)]:Array Value)[0*1]?=some (.int .u32 (x:Int)) from rfl)
 have p1:=run_part_plain (P:=Tryz.prog) (w:=w) u32_plain (show (#[.int .u32 (x:Int),.int .u32 (y:Int)]:Array Value)[1]?=some (.int .u32 (y:Int)) from rfl)
 have q0:=run_part_plain (P:=Tryz.prog) (w:=w) u32_plain (show (#[.int .u32 0,.int .u32 0]:Array Value)[0*1]?=some (.int .u32 0) from rfl)
 have q1:=run_part_plain (P:=Tryz.prog) (w:=w) u32_plain (show (#[.int .u32 0,.int .u32 0]:Array Value)[1]?=some (.int .u32 0) from rfl)
 have e0:=run_equalIn_int (P:=Tryz.prog) w d 23 .u32 .u32 (x:Int) 0 Tryz.underlying23
 have e1:=run_equalIn_int (P:=Tryz.prog) w d 23 .u32 .u32 (y:Int) 0 Tryz.underlying23
 have f0:((x:Int) == 0)=(x == 0):=by rw [Bool.eq_iff_iff,beq_iff_eq,beq_iff_eq];omega
 have f1:((y:Int) == 0)=(y == 0):=by rw [Bool.eq_iff_iff,beq_iff_eq,beq_iff_eq];omega
 rw [f0] at e0
 rw [f1] at e1
 simp only [Op.eqItems,Sem.run_bind,p0,q0,e0,Result.andThen_ok]
 cases x == 0
 ·simp
 ·simp only [Nat.one_mul,p1,q1,e1,Result.andThen_ok,Bool.not_true,Bool.false_eq_true,if_false,Sem.run_bind]
  cases y == 0<;>simp
theorem pair_eql (w:World) (x y:Nat):(Op.equalIn 10000 255 (.agg #[.int .u32 (x:Int),.int .u32 (y:Int)]) (.agg #[.int .u32 0,.int .u32 0])).run Tryz.prog w=.ok (x == 0 && y == 0) w:=by
 obtain ⟨i,hi⟩:=info_of_underlying (P:=Tryz.prog) Tryz.underlying23
 rw [show (10000:Nat)=9998+2 from rfl,run_equalIn_array w (9998+1) _ _ Tryz.underlying255 hi,cells_u32]
 exact eqItems_two w 9998 x y
theorem load_arr {w:World} {B:Nat} {ad:Addr} {b:Sh.Bs} (hr:Reads w B (some ad) 128 (bts b)):(loadVar 147 ad).run Tryz.prog w=.ok (.agg (bts b).toArray) w:=by
 obtain ⟨ad',e,_,hc⟩:=hr.2 (by decide)
 obtain rfl:ad=ad':=Option.some.inj e
 have h1:=run_loadCells_list (P:=Tryz.prog) w ad (bts b) hc
 have hl:(bts b).length=128:=hr.1
 rw [hl] at h1
 obtain ⟨i,hi⟩:=info_of_underlying (P:=Tryz.prog) Tryz.underlying147
 have hsz:Tryz.prog.cellsOf 147=128:=by kernel_rfl
 have h0:(isAgg 147).run Tryz.prog w=.ok true w:=by simp [isAgg,run_underlying Tryz.underlying147]
 have h2:(sizeOf 147).run Tryz.prog w=.ok 128 w:=by rw [run_sizeOf w hi,hsz]
 unfold loadVar
 simp only [Sem.run_bind,h0,h2,h1,Result.andThen_ok,if_true,Sem.run_pure]
theorem results_cell2 {fn:Func} {a b:Tmp} {t:TypeId} {P:Program} {w:World} {v x:Value} {tmps:Array Value} {g:Nat} (h:fn.results=#[.cell a t,.tmp b])
  (hp:tmps.getD a undef=.pointer (some ⟨g,0,none⟩)) (hl:(loadVar t ⟨g,0,none⟩).run P w=.ok v w) (hx:tmps.getD b undef=x):(results fn tmps).run P w=.ok (.tuple #[v,x]) w:=by
 rw [Array.getD_eq_getD_getElem?] at hp
 rw [Array.getD_eq_getD_getElem?] at hx
 simp [results,h,hp,hx,asAddr,hl]
def stV (k:Nat) (A1:Option Addr) (c1:Nat) (A2:Option Addr) (c2:Nat) (x y s:Nat):Array Value:=#[.int .i64 (k:Int),.int .i64 ((sumOf k:Nat):Int),.int .i64 ((dataOf k:Nat):Int),.slice A1 128 c1,.slice A2 128 c2,.int .u32 (x:Int),.int .u32 (y:Int),.int .u32 (s:Int)]
def st0:Array Value:=#[.int .i64 0,.int .i64 0,.int .i64 0,.slice none 0 0,.slice none 0 0,.int .u32 0,.int .u32 0,.int .u32 0]
theorem info_state:(Tryz.prog.info? 257).map (·.size)=some 8:=by kernel_rfl
theorem cells8_of {w:World} {g:Nat} {t:TypeId} {v0 v1 v2 v3 v4 v5 v6 v7:Value} (h:w.heap[g]?=some (.cells #[v0,v1,v2,v3,v4,v5,v6,v7] t (0,0))) :
  w.cell? ⟨g,0,none⟩=some v0/\w.cell? ⟨g,1,none⟩=some v1/\w.cell? ⟨g,2,none⟩=some v2/\w.cell? ⟨g,3,none⟩=some v3/\w.cell? ⟨g,4,none⟩=some v4/\w.cell? ⟨g,5,none⟩=some v5/\w.cell? ⟨g,6,none⟩=some v6/\w.cell? ⟨g,7,none⟩=some v7/\w.frozen? ⟨g,0,none⟩=false :=
 ⟨cell_of_row _ _ 0 _ _ _ h,cell_of_row _ _ 1 _ _ _ h,cell_of_row _ _ 2 _ _ _ h,cell_of_row _ _ 3 _ _ _ h,cell_of_row _ _ 4 _ _ _ h,cell_of_row _ _ 5 _ _ _ h,cell_of_row _ _ 6 _ _ _ h,cell_of_row _ _ 7 _ _ _ h,frozen_of_row _ _ _ _ _ h⟩
theorem load_state {w:World} {g:Nat} {X:Array Value} (h:w.heap[g]?=some (.cells X 257 (0,0))) (hi:(Tryz.prog.info? 257).map (·.size)=some X.size):(loadVar 257 ⟨g,0,none⟩).run Tryz.prog w=.ok (.agg X) w :=
 run_loadVar_row (P:=Tryz.prog) w g 257 257 X (0,0) _ h Tryz.underlying257 rfl hi
theorem loadKnown {P:Program} {ops:Array Oper} {rest:List Oper} {o:Oper} {a:Act} {w:World} {Q:Exit->Act->World->Prop} (hgd:Region.wanted o (yielded ops a.tmps)=true) (ty:TypeId) (x:Operand) (ho:o.op=.load ty x) (ad:Addr) (hx:a.eval x=.pointer (some ad))
  (v:Value) (hl:(loadVar ty ad).run P w=.ok v w) (h:wpList P ops Q rest (a.put o.dst v) w):wpList P ops Q (o :: rest) a w :=
 BigFrame.wpList_want hgd fun K hK=>by
  unfold Oper.wp execOp
  simp only [ho,hx,Instr.loadAt,Instr.sureAddr,Sem.run_bind,Sem.run_pure,Result.andThen_ok,hl]
  exact hK _ _ h
theorem run_arrayAt (ad:Addr) (c:Nat) (w:World):(Instr.arrayAt 147 (.slice (some ad) 128 c)).run Tryz.prog w=.ok (.pointer (some ad)) w:=by
 unfold Instr.arrayAt
 simp [run_underlying Tryz.underlying147]
set_option maxRecDepth 20000 in
set_option maxHeartbeats 1000000 in
theorem blank_any (k:Nat) (A1:Option Addr) (c1:Nat) (ad:Addr) (c2 x y s:Nat) (b:Sh.Bs) (w:World) (hr:Reads w w.heap.size (some ad) 128 (bts b)) :
  Calls Tryz.prog 254 #[.agg #[.int .i64 (k:Int),.int .i64 ((sumOf k:Nat):Int),.int .i64 ((dataOf k:Nat):Int),.slice A1 128 c1,.slice (some ad) 128 c2,.int .u32 (x:Int),.int .u32 (y:Int),.int .u32 (s:Int)]] w fun e w'=>e=.returned (.bool (decide (x=0/\y=0) && decide (b=Sh.noughts)))/\Below w.heap.size w w':=by
 have hb:Below w.heap.size w (w.alloc (.cells #[.int .i64 (k:Int),.int .i64 ((sumOf k:Nat):Int),.int .i64 ((dataOf k:Nat):Int),.slice A1 128 c1,.slice (some ad) 128 c2,.int .u32 (x:Int),.int .u32 (y:Int),.int .u32 (s:Int)] 257)):=(Below.refl _ _).alloc (Nat.le_refl _) _
 have hl:=hr.len
 have hp:=pair_eql (w.alloc (.cells #[.int .i64 (k:Int),.int .i64 ((sumOf k:Nat):Int),.int .i64 ((dataOf k:Nat):Int),.slice A1 128 c1,.slice (some ad) 128 c2,.int .u32 (x:Int),.int .u32 (y:Int),.int .u32 (s:Int)] 257)) x y
 have he:=arr_eql (w.alloc (.cells #[.int .i64 (k:Int),.int .i64 ((sumOf k:Nat):Int),.int .i64 ((dataOf k:Nat):Int),.slice A1 128 c1,.slice (some ad) 128 c2,.int .u32 (x:Int),.int .u32 (y:Int),.int .u32 (s:Int)] 257)) hl (show Sh.noughts.length=128 from by simp [Sh.noughts])
 have hld:=load_arr (hr.below hb)
 have hz:=zero_bytes
 have hat:=run_arrayAt ad c2
 have hzn:=zcB_ne
 rw [<- zcB_bts] at he
 have hq:(b == Sh.noughts)=decide (b=Sh.noughts):=by rw [Bool.eq_iff_iff,beq_iff_eq,decide_eq_true_iff]
 have hxy:decide (x=0/\y=0)=(x == 0 && y == 0):=by rw [Bool.eq_iff_iff,decide_eq_true_iff,Bool.and_eq_true,beq_iff_eq,beq_iff_eq]
 rw [hq] at he
 rw [hxy]
 generalize decide (b=Sh.noughts)=q at *
 generalize (x == 0 && y == 0)=r at *
 have HB:=hid hb
 clear hq hxy hb hr hl
 generalize (bts b).toArray=X at *
 generalize sumOf k=k1 at *
 generalize dataOf k=k2 at *
 cases r
 ·go_enter Tryz.func254,Tryz.ntmps254
  go_wp2
  go_ret
  exact ⟨rfl,HB.out⟩
 ·go_enter Tryz.func254,Tryz.ntmps254
  go_wp2_with (refine loadKnown (o:=⟨some 11,_,_,_,_,_⟩) (by rfl) 147 (.tmp 10) rfl ad rfl (.agg X) hld ?_)
  go_ret
  exact ⟨rfl,HB.out⟩
set_option maxRecDepth 20000 in
set_option maxHeartbeats 1000000 in
theorem good_any (k:Nat) (A1:Option Addr) (c1:Nat) (ad:Addr) (c2 x y s:Nat) (b:Sh.Bs) (w:World) (hr:Reads w w.heap.size (some ad) 128 (bts b)) :
  Calls Tryz.prog 220 #[.agg (stV k A1 c1 (some ad) c2 x y s)] w fun e w'=>e=.returned (.bool (goodB s x y b))/\Below w.heap.size w w':=by
 have hb:Below w.heap.size w (w.alloc (.cells (stV k A1 c1 (some ad) c2 x y s) 257)):=(Below.refl _ _).alloc (Nat.le_refl _) _
 have hrow:(w.alloc (.cells (stV k A1 c1 (some ad) c2 x y s) 257)).heap[w.heap.size]?=some (.cells (stV k A1 c1 (some ad) c2 x y s) 257 (0,0)):=heap_alloc_new _ _
 have hz:(w.alloc (.cells (stV k A1 c1 (some ad) c2 x y s) 257)).heap.size=w.heap.size+1:=by simp
 have hbk:=hid (blank_any k A1 c1 ad c2 x y s b _ ((hr.below hb).more hb.size))
 have HB:=hid hb
 have Hz:=hid hz
 have hld:=load_state hrow info_state
 clear hb hr hz hrow
 unfold stV at *
 unfold goodB
 generalize sumOf k=k1 at *
 generalize dataOf k=k2 at *
 by_cases h1:s=x
 ·subst h1
  have hg:(decide (s=s) || (decide (s=y) || (decide (s=0/\y=0) && decide (b=Sh.noughts))))=true:=by simp
  rw [hg]
  clear hg hbk
  go_enter Tryz.func220,Tryz.ntmps220
  go_wp2
  go_ret
  exact ⟨rfl,HB.out⟩
 ·have q1:((s:Int) == (x:Int))=false:=by rw [beq_eq_false_iff_ne];omega
  by_cases h2:s=y
  ·subst h2
   have hg:(decide (s=x) || (decide (s=s) || (decide (x=0/\s=0) && decide (b=Sh.noughts))))=true:=by simp
   rw [hg]
   clear hg hbk h1
   go_enter Tryz.func220,Tryz.ntmps220
   go_wp2
   go_ret
   exact ⟨rfl,HB.out⟩
  ·have q2:((s:Int) == (y:Int))=false:=by rw [beq_eq_false_iff_ne];omega
   have hg:(decide (s=x) || (decide (s=y) || (decide (x=0/\y=0) && decide (b=Sh.noughts))))=(decide (x=0/\y=0) && decide (b=Sh.noughts)):=by simp [h1,h2]
   rw [hg]
   clear hg h1 h2
   generalize (decide (x=0/\y=0) && decide (b=Sh.noughts))=r at *
   go_enter Tryz.func220,Tryz.ntmps220
   go_wp2_with (go_at_call 254;refine hbk.out.mono ?_;rintro e w' ⟨rfl,hb2⟩)
   go_ret
   exact ⟨rfl,HB.out.trans (hb2.mono (by rw [Hz.out];omega))⟩
end Go.Proofs.YtcnjpmcelihknaaGreatDoor.U
namespace Go.Proofs.YtcnjpmcelihknaaGreatDoor.Sh
open Go.RowKit Go.Maps
def ReadAt (F:Nat->Prop) (w:World) (p:Nat) (S:Sf) (b:Bs) (e:Ending) (w':World):Prop :=
 ∃g c,e=.returned (.tuple #[.slice (some ⟨g,0,none⟩) 128 c,.int .i64 0])/\Bytes w w' (some ⟨g,0,none⟩) b/\Shelf w' p S.doRead F/\Only F w w'
set_option maxRecDepth 20000 in
set_option maxHeartbeats 800000 in
theorem read_at (w:World) (p d n:Nat) {S:Sf} {F:Nat->Prop} (h:Shelf w p S F) (hd:d<S.disks.length) (hn:n<S.sectors) (hw:why S d=0) :
  Calls Tryz.prog 252 #[.pointer (some ⟨p,0,none⟩),.int .i64 d,.int .i64 n] w (ReadAt F w p S ((S.disks.getD d default).val n)):=by
 obtain ⟨D,gs,h⟩:=h
 have hrf:=refusal_any h d hd
 unfold RefusedAs at hrf
 rw [hw] at hrf
 have HR:=hid hrf
 have HC:=hid (hasSector_yes h d n hd hn)
 have c4:=h.c4
 have f4:=h.free 4
 have hm:=h.most
 have hval:=(h.diskOf hd).val hn
 have HB:=hid (fun w=>bytes_of w ((S.disks.getD d default).val n) hval.1)
 have h1:ShelfIs (w.setCell ⟨p,4,none⟩ (.int .i64 (wrap64 (S.count+1)))) p S.doRead F D gs:=by
  refine h.rooted S.off S.left (wrap64 (S.count+1)) h.left ?_ (fun b _ hb=>heap_set_other w ⟨p,4,none⟩ _ hb) (by simp)
  rw [cells_set _ h.root];rfl
 have hO1:Only F w (w.setCell ⟨p,4,none⟩ (.int .i64 (wrap64 (S.count+1)))):=(Only.refl F w).setCell (.inl h.inF.1) _
 have HD:=hid (fun c0 c1 c2=>dread_any (w.setCell ⟨p,4,none⟩ (.int .i64 (wrap64 (S.count+1)))) D (d*4) S.sectors n (gs d) (S.disks.getD d default) (h1.diskOf hd) hn h.secM c0 c1 c2)
 have c2:=h.c2
 have HSZ:=hid (show (w.setCell ⟨p,4,none⟩ (.int .i64 (wrap64 (S.count+1)))).heap.size=w.heap.size by simp)
 have HDW:=hid (HD.out (h1.dc hd (c:=0) (by decide)) (h1.dc hd (c:=1) (by decide)) (h1.dc hd (c:=2) (by decide)))
 clear HD
 have kb:=HB.out (w.setCell ⟨p,4,none⟩ (.int .i64 (wrap64 (S.count+1))))
 have H1:=hid h1
 have HO:=hid hO1
 have HV:=hid hval
 have HE:=hid (bytes_new2 (w.setCell ⟨p,4,none⟩ (.int .i64 (wrap64 (S.count+1)))) _ hval (grownCap (w.setCell ⟨p,4,none⟩ (.int .i64 (wrap64 (S.count+1)))) 128 0 5) w.heap.size HSZ.out)
 clear h1 hO1 hval HB h hrf
 unfold sv at HDW
 generalize (S.disks.getD d default).val n=b at *
 generalize strL b=s at *
 generalize S.count=cnt at *
 generalize S.disks.length=k at *
 go_enter Tryz.func252,Tryz.ntmps252
 go_wp2_with (first
  | (go_at_call 260;refine HC.out.mono ?_;rintro e w' ⟨rfl,rfl⟩)
  | (go_at_call 259;refine HR.out.mono ?_;rintro e w' ⟨rfl,rfl⟩)
  | (go_at_call 276;refine HDW.out.mono ?_;rintro e w' ⟨rfl,rfl⟩))
 go_ret2
 exact ⟨_,_,rfl,⟨HE.out.1,fun a ha=>⟨by rw [<- HSZ.out];exact (HE.out.2 a ha).1,(HE.out.2 a ha).2⟩⟩,⟨D,gs,H1.out.same (fun x hx=>(Below.heap_alloc _ _ _ (H1.out.ltF x hx))) (by simp)⟩,(HO.out.drew.alloc _)⟩
end Go.Proofs.YtcnjpmcelihknaaGreatDoor.Sh
namespace Go.Proofs.YtcnjpmcelihknaaGreatDoor.U
open Go.RowKit Go.Maps
theorem At.tabs {B:Nat} {W w:World} {p:Nat} {S:Sh.Sf} {F:Nat->Prop} (h:Sh.At B W w p S F) (hT:Tabs W) (hB:max 0 1+1<=B):Tabs w:=hT.below hB h.bel
theorem two_new' (w:World) (c d:Array Value) (t t':TypeId):((w.alloc (.cells c t)).alloc (.cells d t')).heap[w.heap.size]?=some (.cells c t (0,0))/\((w.alloc (.cells c t)).alloc (.cells d t')).heap[w.heap.size+1]?=some (.cells d t' (0,0)) /\
  ((w.alloc (.cells c t)).alloc (.cells d t')).heap.size=w.heap.size+2/\Below w.heap.size w ((w.alloc (.cells c t)).alloc (.cells d t')):=by
 have hz:(w.alloc (.cells c t)).heap.size=w.heap.size+1:=by simp
 have hb1:Below w.heap.size w (w.alloc (.cells c t)):=(Below.refl _ w).alloc (Nat.le_refl _) _
 have hb2:Below (w.alloc (.cells c t)).heap.size (w.alloc (.cells c t)) ((w.alloc (.cells c t)).alloc (.cells d t')):=(Below.refl _ _).alloc (Nat.le_refl _) _
 refine ⟨(hb2.block w.heap.size (by omega)).trans (heap_alloc_new _ _),?_,by simp,hb1.trans (hb2.mono (by omega))⟩
 have:=heap_alloc_new (w.alloc (.cells c t)) (.cells d t')
 rw [hz] at this
 exact this
theorem stV_one (k:Nat) (A1:Option Addr) (c1:Nat) (A2:Option Addr) (c2 x y s:Nat):(stV k A1 c1 A2 c2 x y s).all (·.oneCell')=true:=by simp [stV,Value.oneCell']
def LookIs (w:World) (p d k:Nat) (S:Sh.Sf) (F:Nat->Prop) (e:Ending) (w':World):Prop :=
 ∃b1 c1 b2 c2,e=.returned (.tuple #[.agg (stV k (some ⟨b1,0,none⟩) c1 (some ⟨b2,0,none⟩) c2 (pr (V S d (sumOf k)) k 0) (pr (V S d (sumOf k)) k 1) (sumL d k (V S d (dataOf k)))),.int .i64 0]) /\
  Sh.Bytes w w' (some ⟨b1,0,none⟩) (V S d (sumOf k))/\Sh.Bytes w w' (some ⟨b2,0,none⟩) (V S d (dataOf k))/\Sh.Shelf w' p S.doRead.doRead F/\Sh.Only F w w'
theorem bytes_on {w0 w w':World} {A:Option Addr} {l:Sh.Bs} (h:Sh.Bytes w0 w A l) (hb:Below w.heap.size w w'):Sh.Bytes w0 w' A l:=by
 refine ⟨(h.1.below hb).more hb.size,fun a ha=>⟨(h.2 a ha).1,fun j hj=>?_⟩⟩
 obtain ⟨ad,e,hlt,_⟩:=h.1.2 (by decide)
 rw [ha] at e
 injection e with e
 subst e
 rw [<- (h.2 a ha).2 j hj]
 exact hb.frozen (p:=a.add j) (by rw [block_of_add];exact hlt)
theorem bytes_only {w0 w w':World} {A:Option Addr} {l:Sh.Bs} {F:Nat->Prop} (h:Sh.Bytes w0 w A l) (hF:∀a,A=some a->¬F a.block) (ho:Sh.Only F w w'):Sh.Bytes w0 w' A l:=by
 refine ⟨⟨h.1.1,fun h0=>?_⟩,fun a ha=>⟨(h.2 a ha).1,fun j hj=>?_⟩⟩
 ·obtain ⟨ad,e,hlt,hc⟩:=h.1.2 h0
  exact ⟨ad,e,Nat.lt_of_lt_of_le hlt ho.size,fun j u hu=>(ho.cell (p:=ad.add j) (by rw [block_of_add];exact hlt) (by rw [block_of_add];exact hF ad e)).trans (hc j u hu)⟩
 ·obtain ⟨ad,e,hlt,_⟩:=h.1.2 (by decide)
  rw [ha] at e
  injection e with e
  subst e
  rw [<- (h.2 a ha).2 j hj]
  exact ho.frozen (p:=a.add j) (by rw [block_of_add];exact hlt) (by rw [block_of_add];exact hF a ha)
theorem bytes_from {w0 w1 w:World} {A:Option Addr} {l:Sh.Bs} (h:Sh.Bytes w1 w A l) (hs:w0.heap.size<=w1.heap.size):Sh.Bytes w0 w A l:=⟨h.1,fun a ha=>⟨Nat.le_trans hs (h.2 a ha).1,(h.2 a ha).2⟩⟩
theorem bytes_some {w0 w:World} {A:Option Addr} {l:Sh.Bs} (h:Sh.Bytes w0 w A l):∃ad,A=some ad:=by
 obtain ⟨ad,e,_⟩:=h.1.2 (by decide)
 exact ⟨ad,e⟩
theorem only_setRow (w:World) (g:Nat) (cs:Array Value):Sh.Only (fun b=>b=g) w (w.setRow g cs):=⟨rfl,rfl,rfl,by simp,fun _ _ hn=>setRow_other _ _ _ _ hn⟩
theorem only_below {w w':World} (F:Nat->Prop) (h:Below w.heap.size w w'):Sh.Only F w w':=⟨h.os,h.tape,h.output,h.size,fun k hk _=>h.block k hk⟩
section
variable {B:Nat} {W w:World} {p d:Nat} {S:Sh.Sf} {F:Nat->Prop}
theorem secM_of (h:Sh.Shelf w p S F):S.sectors<=4096:=by obtain ⟨D,gs,s⟩:=h;exact s.secM
theorem V_sec (h:Sh.Shelf w p S F) (hd:d<S.disks.length) {n:Nat} (hn:n<S.sectors):Sh.Sec (V S d n):=by obtain ⟨D,gs,s⟩:=h;exact (s.diskOf hd).val hn
set_option maxRecDepth 20000 in
set_option maxHeartbeats 1000000 in
theorem look_why (h:Sh.Shelf w p S F) (k:Nat) (hk:k<blk S.sectors) (hd:d<S.disks.length) (hw:Sh.why S d≠0) :
  Calls Tryz.prog 219 #[.agg #[.pointer (some ⟨p,0,none⟩),.int .i64 d],.int .i64 k] w fun e w'=>e=.returned (.tuple #[.agg st0,.int .i64 (Sh.why S d)])/\Below w.heap.size w w':=by
 have hbl:=blk_le S.sectors
 have hM:=secM_of h
 obtain ⟨hk1,hk2,_⟩:=sum_of_lt hk
 obtain ⟨q0,q1,z0,b0⟩:=two_new' w #[.pointer (some ⟨p,0,none⟩),.int .i64 d] st0 230 257
 have k0:((w.alloc (.cells #[.pointer (some ⟨p,0,none⟩),.int .i64 d] 230)).alloc (.cells st0 257)).cell? ⟨w.heap.size,0,none⟩=some (.pointer (some ⟨p,0,none⟩)):=cell_of_row _ _ 0 _ _ _ q0
 have k1:((w.alloc (.cells #[.pointer (some ⟨p,0,none⟩),.int .i64 d] 230)).alloc (.cells st0 257)).cell? ⟨w.heap.size,1,none⟩=some (.int .i64 d):=cell_of_row _ _ 1 _ _ _ q0
 have hS:Sh.Shelf ((w.alloc (.cells #[.pointer (some ⟨p,0,none⟩),.int .i64 d] 230)).alloc (.cells st0 257)) p S F:=h.only (G:=fun _=>False) ⟨b0.os,b0.tape,b0.output,b0.size,fun k hk _=>b0.block k hk⟩ (fun _ _ e=>e)
 have HP:=hid (fun w=>place_yes k (by omega) w)
 have HR:=hid (Sh.read_why _ p d (sumOf k) hS hd hk2 hw)
 have hq:(Sh.why S d != 0)=true:=by simpa using hw
 have hlv:=hid (load_state q1 info_state)
 have hb:=hid b0
 clear h hS hw b0
 generalize sumOf k=k1 at *
 generalize dataOf k=k2 at *
 generalize Sh.why S d=y at *
 clear q0 q1 z0
 unfold st0 at *
 go_enter Tryz.func219,Tryz.ntmps219
 go_wp2_with (first
  | (go_at_call 251;refine (HP.out _).mono ?_;rintro e w' ⟨rfl,rfl⟩)
  | (go_at_call 252;refine HR.out.mono ?_;rintro e w' ⟨rfl,rfl⟩))
 refine bodyPost_ret (results_cell2 (g:=w.heap.size+1) Tryz.results219 rfl hlv.out rfl) rfl ?_
 exact ⟨rfl,hb.out⟩
set_option maxRecDepth 20000 in
set_option maxHeartbeats 4000000 in
theorem look_done (h:Sh.At B W w p S F) (hT:Tabs W) (hTB:max 0 1+1<=B) (k:Nat) (hk:k<blk S.sectors) (hd:d<S.disks.length) (hw:Sh.why S d=0) :
  Calls Tryz.prog 219 #[.agg #[.pointer (some ⟨p,0,none⟩),.int .i64 d],.int .i64 k] w (LookIs w p d k S F):=by
 have hbl:=blk_le S.sectors
 have hM:=secM_of h.shelf
 obtain ⟨hk1,hk2,_⟩:=sum_of_lt hk
 have hv1:=V_sec h.shelf hd hk2
 have hv2:=V_sec h.shelf hd hk1
 obtain ⟨q0,q1,z0,b0⟩:=two_new' w #[.pointer (some ⟨p,0,none⟩),.int .i64 d] st0 230 257
 have k0:((w.alloc (.cells #[.pointer (some ⟨p,0,none⟩),.int .i64 d] 230)).alloc (.cells st0 257)).cell? ⟨w.heap.size,0,none⟩=some (.pointer (some ⟨p,0,none⟩)):=cell_of_row _ _ 0 _ _ _ q0
 have k1:((w.alloc (.cells #[.pointer (some ⟨p,0,none⟩),.int .i64 d] 230)).alloc (.cells st0 257)).cell? ⟨w.heap.size,1,none⟩=some (.int .i64 d):=cell_of_row _ _ 1 _ _ _ q0
 have hS:=h.grown b0
 have HP:=hid (fun w=>place_yes k (by omega) w)
 have HR:=hid (Sh.read_at _ p d (sumOf k) hS.shelf hd hk2 hw)
 have hnF:∀b,w.heap.size<=b->¬F b:=fun b hb e=>by have:=h.shelf.ltF e;omega
 have A0:=hid hS
 have HLT:=hid (fun b (e:F b)=>h.shelf.ltF e)
 have Q0:=hid q0
 have Q1:=hid q1
 have HO:=hid b0
 clear h hS b0 q0 q1
 unfold st0 at *
 go_enter Tryz.func219,Tryz.ntmps219
 go_wp2_with fail
 generalize ((w.alloc (.cells #[.pointer (some ⟨p,0,none⟩),.int .i64 d] 230)).alloc (.cells #[.int .i64 0,.int .i64 0,.int .i64 0,.slice none 0 0,.slice none 0 0,.int .u32 0,.int .u32 0,.int .u32 0] 257))=W0 at *
 refine (HP.out _).mono ?_
 rintro e w' ⟨rfl,rfl⟩
 go_wp2_with fail
 refine HR.out.mono ?_
 rintro e w1 ⟨b1,c1,rfl,y1,s1,o1⟩
 have hg0:w.heap.size<W0.heap.size:=by omega
 have hg1:w.heap.size+1<W0.heap.size:=by omega
 have m0:=(o1.cell (p:=⟨w.heap.size,0,none⟩) hg0 (hnF _ (Nat.le_refl _))).trans k0
 have m1:=(o1.cell (p:=⟨w.heap.size,1,none⟩) hg0 (hnF _ (Nat.le_refl _))).trans k1
 have r1:=hid ((o1.block (w.heap.size+1) hg1 (hnF _ (Nat.le_succ _))).trans Q1.out)
 have a1:=A0.out.stays s1 o1
 have X1:=hid (show Sh.Bytes W0 w1 (some ⟨b1,0,none⟩) (V S d (sumOf k)) from y1)
 have hF1:=hid (show ∀a,some (⟨b1,0,none⟩:Addr)=some a->¬F a.block from fun a ha e=>by have h1:=(y1.2 a ha).1;exact hnF _ (by omega) e)
 have A1':=hid a1
 have HR2:=hid (Sh.read_at w1 p d (dataOf k) a1.shelf hd hk1 hw)
 clear y1 s1 a1 k0 k1
 go_wp2_with fail
 refine HR2.out.mono ?_
 rintro e w2 ⟨b2,c2,rfl,y2,s2,o2⟩
 have n0:=(o2.cell (p:=⟨w.heap.size,0,none⟩) (Nat.lt_of_lt_of_le hg0 o1.size) (hnF _ (Nat.le_refl _))).trans m0
 have kc:=(o2.cell (p:=⟨w.heap.size,1,none⟩) (Nat.lt_of_lt_of_le hg0 o1.size) (hnF _ (Nat.le_refl _))).trans m1
 have r2:=hid ((o2.block (w.heap.size+1) (Nat.lt_of_lt_of_le hg1 o1.size) (hnF _ (Nat.le_succ _))).trans r1.out)
 have a2:=A1'.out.stays s2 o2
 have HT:=hid (At.tabs a2 hT hTB)
 have Z1:=hid (bytes_only X1.out hF1.out o2)
 have Z2:=hid (show Sh.Bytes W0 w2 (some ⟨b2,0,none⟩) (V S d (dataOf k)) from bytes_from y2 o1.size)
 have HO2:=hid (o1.trans o2 (fun b hb=>.inl hb))
 have S2:=hid (show Sh.Shelf w2 p S.doRead.doRead F from s2)
 have hsz:W0.heap.size<=w2.heap.size:=Nat.le_trans o1.size o2.size
 have hg0':w.heap.size<w2.heap.size:=Nat.lt_of_lt_of_le hg0 hsz
 have hg1':w.heap.size+1<w2.heap.size:=Nat.lt_of_lt_of_le hg1 hsz
 have y1:=hid Z1.out.1
 have Y2:=hid Z2.out.1
 have hs1:=hv1.2
 have hs2:=hv2.2
 clear y2 s2 a2 A1' X1 hF1 r1 m0 m1 o1 o2 HR HR2 hnF HP A0 Q0 Q1
 generalize hX1:V S d (sumOf k)=X1 at *
 generalize hX2:V S d (dataOf k)=X2 at *
 have HX1:=hid hX1
 have HX2:=hid hX2
 clear hX1 hX2
 go_wp2_with fail
 refine wp_region_held_drew (S:=fun (W':World)=>W'.cell? ⟨w.heap.size,1,none⟩=some (.int .i64 d)) (by kernel_rfl) kc (fun hHeld=>?_)
 have b2d:Below w2.heap.size w2 w2.drew:=⟨rfl,rfl,rfl,Nat.le_refl _,fun _ _=>rfl⟩
 refine tk 0 47 ?_
 refine tk 1 48 ?_
 refine tk 2 49 ?_
 refine tk 3 50 ?_
 refine tk 4 51 ?_
 refine tk 5 52 ?_
 refine tk 6 53 ?_
 refine tk 8 55 ?_
 refine tk 9 56 ?_
 refine tk 10 57 ?_
 refine tk 11 58 ?_
 refine r1 7 (some 54) fun K hK=>?_
 go_simp
 refine (pairOf_any (some ⟨b1,0,none⟩) c1 k X1 w2.drew (by omega) hs1 y1.out).mono ?_
 rintro e w3 ⟨rfl,b3⟩
 refine hK.out _ _ ((b3.cell (p:=⟨w.heap.size,1,none⟩) hg0').trans kc) (fun hHeld=>?_)
 clear hK K
 try simp only [Act.put,List.setIfInBounds_toArray,List.set_cons_zero,List.set_cons_succ]
 have b3':Below w2.heap.size w2 w3:=⟨b3.os,b3.tape,b3.output,b3.size,b3.block⟩
 clear b3
 have hg3:w.heap.size<w3.heap.size:=Nat.lt_of_lt_of_le hg0' b3'.size
 have kc3:w3.cell? ⟨w.heap.size,1,none⟩=some (.int .i64 d):=hHeld
 have y2:=hid (((Y2.out.below b3').more b3'.size))
 have hT3:Tabs w3:=HT.out.below HT.out.size b3'
 have r3:=hid ((b3'.block (w.heap.size+1) hg1').trans r2.out)
 have B3:=hid b3'
 clear b3'
 refine r1 12 (some 59) fun K hK=>?_
 go_simp
 refine (sum_any d k (some ⟨b2,0,none⟩) 128 c2 X2 w3 hs2 y2.out (by decide) hT3).mono ?_
 rintro e w4 ⟨rfl,b4⟩
 refine hK.out _ _ ((b4.cell (p:=⟨w.heap.size,1,none⟩) hg3).trans kc3) (fun hHeld=>?_)
 clear hK K
 try simp only [Act.put,List.setIfInBounds_toArray,List.set_cons_zero,List.set_cons_succ]
 have kc4:w4.cell? ⟨w.heap.size,1,none⟩=some (.int .i64 d):=hHeld
 have hg1'':w.heap.size+1<w3.heap.size:=Nat.lt_of_lt_of_le hg1' B3.out.size
 have r4:=(b4.block (w.heap.size+1) hg1'').trans r3.out
 have kc5:(w4.setRow (w.heap.size+1) (stV k (some ⟨b1,0,none⟩) c1 (some ⟨b2,0,none⟩) c2 (pr X1 k 0) (pr X1 k 1) (sumL d k X2))).cell? ⟨w.heap.size,1,none⟩=some (.int .i64 d):=(cell_setRow_other w4 _ _ ⟨w.heap.size,1,none⟩ (show w.heap.size≠w.heap.size+1 by omega)).trans kc4
 have B4:=hid (B3.out.trans (b4.mono B3.out.size))
 clear b4
 refine tk 13 60 ?_
 refine r1 14 none fun K hK=>?_
 rw [if_pos (by rfl)]
 refine wp_store_row 257 _ _ rfl (w.heap.size+1) (stV k (some ⟨b1,0,none⟩) c1 (some ⟨b2,0,none⟩) c2 (pr X1 k 0) (pr X1 k 1) (sumL d k X2)) rfl rfl 257 _ r4 info_state rfl (stV_one _ _ _ _ _ _ _ _) ?_
 refine hK.out _ _ (kc5) (fun hHeld=>?_)
 clear hK K
 refine tk 15 5 ?_
 refine wpAnyH_done (by kernel_rfl) ?_ _
 have O5:=only_setRow w4 (w.heap.size+1) (stV k (some ⟨b1,0,none⟩) c1 (some ⟨b2,0,none⟩) c2 (pr X1 k 0) (pr X1 k 1) (sumL d k X2))
 have hn1:∀a,some (⟨b1,0,none⟩:Addr)=some a->¬(a.block=w.heap.size+1):=fun a ha e=>by have:=(Z1.out.2 a ha).1;omega
 have hn2:∀a,some (⟨b2,0,none⟩:Addr)=some a->¬(a.block=w.heap.size+1):=fun a ha e=>by have:=(Z2.out.2 a ha).1;omega
 have E1:=hid (bytes_from (w0:=w) (bytes_only (bytes_on Z1.out B4.out) hn1 O5) (by omega))
 have E2:=hid (bytes_from (w0:=w) (bytes_only (bytes_on Z2.out B4.out) hn2 O5) (by omega))
 have O24:=(only_below (fun b=>b=w.heap.size+1) B4.out).trans O5 (fun b hb=>.inl hb)
 have E3:=hid (S2.out.only O24 (fun b hb e=>by have:=HLT.out b hb;omega))
 have E4:=hid ((((only_below F HO.out).trans HO2.out (fun b hb=>.inl hb)).trans (only_below F B4.out) (fun b hb=>.inl hb)).trans O5 (fun b e=>.inr (by omega)))
 have E5:=hid (load_state (setRow_heap w4 _ _ (stV k (some ⟨b1,0,none⟩) c1 (some ⟨b2,0,none⟩) c2 (pr X1 k 0) (pr X1 k 1) (sumL d k X2)) _ _ r4) info_state)
 clear O5 hn1 hn2 O24 r4 kc4 kc5 hHeld
 go_wp2
 refine bodyPost_ret (results_cell2 (g:=w.heap.size+1) Tryz.results219 rfl E5.out rfl) rfl ?_
 unfold LookIs
 rw [HX1.out,HX2.out]
 exact ⟨b1,c1,b2,c2,rfl,E1.out,E2.out,E3.out,E4.out⟩
end
section
variable {B:Nat} {W w:World} {a p d:Nat} {o:Int} {S:Sh.Sf} {F:Nat->Prop}
def ReadAs (w:World) (g:Bool) (X:Sh.Bs) (e:Ending) (w':World):Prop:=(g=true/\∃A c,e=.returned (.tuple #[.slice A 128 c,.int .i64 0])/\Sh.Bytes w w' A X)\/(g=false/\e=.returned (.tuple #[.slice none 0 0,.int .i64 5]))
def goodAt (S:Sh.Sf) (d k:Nat):Bool:=goodL d k (V S d (sumOf k)) (V S d (dataOf k))
theorem looked_on (hw:Sh.why S d=0):Looked S d=S.doRead.doRead:=if_pos hw
theorem looked_off' (hw:Sh.why S d≠0):Looked S d=S:=if_neg hw
set_option maxRecDepth 20000 in
set_option maxHeartbeats 1000000 in
theorem read_why (h:Dv B W w a p d o S F) (k:Nat) (hk:k<blk S.sectors) (hd:d<S.disks.length) (hw:Sh.why S d≠0) :
  Calls Tryz.prog 186 #[.pointer (some ⟨a,0,none⟩),.int .i64 k] w fun e w'=>e=.returned (.tuple #[.slice none 0 0,.int .i64 (Sh.why S d)])/\Below w.heap.size w w':=by
 have HH:=hid (has_yes k h.dev h.on.shelf (secM_of h.on.shelf) hk)
 have c0:=h.dev.c0
 have c1:=h.dev.c1
 have HL:=hid (fun m=>look_why (w:=w.drewN m) (h.on.shelf.only (G:=fun _=>False) ⟨rfl,rfl,rfl,Nat.le_refl _,fun _ _ _=>rfl⟩ (fun _ _ e=>e)) k hk hd hw)
 have hq:(Sh.why S d != 0)=true:=by simpa using hw
 have hq2:(Sh.why S d == 0)=false:=by simpa using hw
 clear h hk hw
 generalize Sh.why S d=y at *
 unfold st0 at *
 go_enter Tryz.func186,Tryz.ntmps186
 go_wp2_with (first
  | (go_at_call 218;refine HH.out.mono ?_;rintro e w' ⟨rfl,m,rfl⟩)
  | (go_at_call 219;refine (HL.out m).mono ?_;rintro e w2 ⟨rfl,b2⟩))
 go_ret2
 exact ⟨rfl,((drawn (Below.refl _ w) m).trans b2).alloc (Nat.le_trans b2.size (Nat.le_refl _)) _⟩
set_option maxRecDepth 20000 in
set_option maxHeartbeats 1000000 in
theorem read_done (h:Dv B W w a p d o S F) (hT:Tabs W) (hTB:max 0 1+1<=B) (k:Nat) (hk:k<blk S.sectors) (hd:d<S.disks.length) (hw:Sh.why S d=0) (g:Bool) (hg:goodAt S d k=g) :
  Calls Tryz.prog 186 #[.pointer (some ⟨a,0,none⟩),.int .i64 k] w fun e w'=>ReadAs w g (V S d (dataOf k)) e w'/\Dv B W w' a p d o (Looked S d) F/\Sh.Only F w w':=by
 have HH:=hid (has_yes k h.dev h.on.shelf (secM_of h.on.shelf) hk)
 have c0:=h.dev.c0
 have c1:=h.dev.c1
 have HL:=hid (fun m=>look_done (w:=w.drewN m) (h.on.grown (drawn (Below.refl _ w) m)) hT hTB k hk hd hw)
 rw [looked_on hw]
 have HE:=hid (fun w2 (hs:Sh.Shelf w2 p S.doRead.doRead F) (ho:Sh.Only F w w2)=>h.stays hs ho)
 have hlt:=hid (fun b (e:F b)=>h.on.shelf.ltF e)
 clear h hk hw hT hTB
 unfold goodAt goodL at hg
 unfold LookIs at HL
 generalize V S d (dataOf k)=X2 at *
 generalize sumL (d:Int) (k:Int) X2=s at *
 generalize pr (V S d (sumOf k)) k 0=x at *
 generalize pr (V S d (sumOf k)) k 1=y at *
 go_enter Tryz.func186,Tryz.ntmps186
 go_wp2_with (go_at_call 218;refine HH.out.mono ?_;rintro e w' ⟨rfl,m,rfl⟩)
 refine (HL.out m).mono ?_
 rintro e w2 ⟨b1,d1,b2,d2,rfl,z1,z2,z3,z4⟩
 have hrow:(w2.alloc (.cells (stV k (some ⟨b1,0,none⟩) d1 (some ⟨b2,0,none⟩) d2 x y s) 257)).heap[w2.heap.size]?=some (.cells (stV k (some ⟨b1,0,none⟩) d1 (some ⟨b2,0,none⟩) d2 x y s) 257 (0,0)):=heap_alloc_new _ _
 have hb2:Below w2.heap.size w2 (w2.alloc (.cells (stV k (some ⟨b1,0,none⟩) d1 (some ⟨b2,0,none⟩) d2 x y s) 257)):=(Below.refl _ _).alloc (Nat.le_refl _) _
 have Z2:=hid (bytes_on z2 hb2)
 have hGood:=hid (good_any k (some ⟨b1,0,none⟩) d1 ⟨b2,0,none⟩ d2 x y s X2 _ Z2.out.1)
 rw [hg] at hGood
 have O3:=hid (show Sh.Only F w (w2.alloc (.cells (stV k (some ⟨b1,0,none⟩) d1 (some ⟨b2,0,none⟩) d2 x y s) 257)) from ((only_below F (drawn (Below.refl _ w) m)).trans z4 (fun b hb=>.inl hb)).trans (only_below F hb2) (fun b hb=>.inl hb))
 have S3:=hid (z3.only (only_below (fun _=>False) hb2) (fun _ _ e=>e))
 have hld:=load_state hrow info_state
 obtain ⟨q0,q1,q2,q3,q4,q5,q6,q7,_⟩:=cells8_of hrow
 clear hrow hb2 z1 z2 z3 z4 HL HH
 have hsz2:=hid (show w2.heap.size<(w2.alloc (.cells (stV k (some ⟨b1,0,none⟩) d1 (some ⟨b2,0,none⟩) d2 x y s) 257)).heap.size by simp)
 unfold stV at *
 go_wp2_with fail
 generalize w2.alloc (.cells #[.int .i64 (k:Int),.int .i64 ((sumOf k:Nat):Int),.int .i64 ((dataOf k:Nat):Int),.slice (some ⟨b1,0,none⟩) 128 d1,.slice (some ⟨b2,0,none⟩) 128 d2,.int .u32 (x:Int),.int .u32 (y:Int),.int .u32 (s:Int)] 257)=W3 at *
 refine hGood.out.mono ?_
 rintro e w4 ⟨rfl,b4⟩
 have O4:=hid (O3.out.trans (only_below F b4) (fun b hb=>.inl hb))
 have S4:=hid (S3.out.only (only_below (fun _=>False) b4) (fun _ _ e=>e))
 have E4:=hid (bytes_from (w0:=w) (bytes_on Z2.out b4) (Nat.le_refl _))
 have k4:=(b4.cell (p:=⟨w2.heap.size,4,none⟩) hsz2.out).trans q4
 cases g
 ·go_wp2
  go_ret2
  exact ⟨.inr ⟨rfl,rfl⟩,HE.out _ S4.out O4.out,O4.out⟩
 ·go_wp2
  go_ret2
  exact ⟨.inl ⟨rfl,some ⟨b2,0,none⟩,d2,rfl,E4.out⟩,HE.out _ S4.out O4.out,O4.out⟩
end
end Go.Proofs.YtcnjpmcelihknaaGreatDoor.U
