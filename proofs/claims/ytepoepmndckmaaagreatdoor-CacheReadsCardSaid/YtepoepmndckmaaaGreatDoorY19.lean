/-
  What the statement's proof rests on, part 19.
  Conditions: each theorem's own.
-/
import Derived.Test.YtepoepmndckmaaaGreatDoorY16
import Derived.Test.YtepoepmndckmaaaGreatDoorY08
import Derived.Test.YtepoepmndckmaaaGreatDoorYtk
open Go.Lib (hid)
namespace Go.Proofs.YtepoepmndckmaaaGreatDoor.S
open Go.RowKit
theorem results_cell2 {fn:Func} {a b:Tmp} {t:TypeId} {P:Program} {w:World} {v x:Value} {tmps:Array Value} {g:Nat} (h:fn.results=#[.cell a t,.tmp b])
  (hp:tmps.getD a undef=.pointer (some ⟨g,0,none⟩)) (hl:(loadVar t ⟨g,0,none⟩).run P w=.ok v w) (hx:tmps.getD b undef=x):(results fn tmps).run P w=.ok (.tuple #[v,x]) w:=by
 rw [Array.getD_eq_getD_getElem?] at hp
 rw [Array.getD_eq_getD_getElem?] at hx
 simp [results,h,hp,hx,asAddr,hl]
def okD (l:List Nat):Bool:=(supOf l).right && (encL (supOf l).nums == l)
def toldOf (l:List Nat):Sup:=if okD l then supOf l else sup0
def codeD (l:List Nat):Int:=if okD l then 0 else 8
def Decoded (w:World) (s:Sup) (x:Int) (e:Ending) (w':World):Prop:=e=.returned (.tuple #[s.val,.int .i64 x])/\Below w.heap.size w w'
theorem exec_load_block {o:Oper} {a:Act} {w:World} (x:Operand) (ho:o.op=.load 220 x) (g:Nat) (hx:a.eval x=.pointer (some ⟨g,0,none⟩)) (X:Array Value) (hg:w.heap[g]?=some (.cells X 220 (0,0)))
  (hi:(Tryz.prog.info? 220).map (·.size)=some X.size):(execOp a.eval o).run Tryz.prog w=.ok (.value (.agg X)) w:=by
 unfold execOp
 simp only [ho,hx,Instr.loadAt,Instr.sureAddr,Sem.run_bind,Sem.run_pure,Result.andThen_ok,run_loadVar_row w g 220 220 X (0,0) _ hg Tryz.underlying220 rfl hi]
theorem zcB_bts:zcB=(bts (List.replicate 128 0)).toArray:=by simp [zcB,bts]
set_option maxRecDepth 100000 in
set_option maxHeartbeats 8000000 in
theorem decode_is (A:Option Addr) (c:Nat) (l:List Nat) (hs:Small l) (w:World) (hr:Reads w w.heap.size A 128 (bts l)) (hT:Tabs w) (hW:Wid w) :
  Calls Tryz.prog 123 #[.slice A 128 c] w (Decoded w (toldOf l) (codeD l)):=by
 have hl:=hr.len
 have QR:=hid (fun w=>right_any (supOf l) w)
 have QB:=hid (fun (hr:(supOf l).right=true) w=>block_any (supOf l) w hr)
 have QN:=hid (numbers_any l hl hs)
 have hi61:(Tryz.prog.info? 220).map (·.size)=some (bts l).toArray.size:=by rw [List.size_toArray,bts_length,hl];exact info_block
 have hlk:=encL_length (supOf l).nums
 have HD:Hid (toldOf l=(if ((supOf l).right && (encL (supOf l).nums == l)) then supOf l else sup0)/\codeD l=(if ((supOf l).right && (encL (supOf l).nums == l)) then 0 else 8)):=hid ⟨rfl,rfl⟩
 have HEQ:=hid (fun w=>block_equal w 9997 hlk hl)
 have hwsz:=hW.size
 have htsz:=hT.size
 -- the worlds ahead of the copy
 have hb0:Below w.heap.size w ((w.alloc (.cells #[.int .i64 0,.int .i64 0,.int .i64 0,.int .i64 0,.int .i64 0,.int .i64 0,.int .i64 0,.int .i64 0] 81)).alloc (.cells zcB 220)):=((Below.refl _ _).alloc (Nat.le_refl _) _).alloc (by simp) _
 have hs1:(w.alloc (.cells #[.int .i64 0,.int .i64 0,.int .i64 0,.int .i64 0,.int .i64 0,.int .i64 0,.int .i64 0,.int .i64 0] 81)).heap.size=w.heap.size+1:=by simp
 have h1:((w.alloc (.cells #[.int .i64 0,.int .i64 0,.int .i64 0,.int .i64 0,.int .i64 0,.int .i64 0,.int .i64 0,.int .i64 0] 81)).alloc (.cells zcB 220)).heap[w.heap.size+1]?=some (.cells (bts (List.replicate 128 0)).toArray 220 (0,0)):=by
  rw [<- zcB_bts,<- hs1];exact heap_alloc_last _ _
 have h0:((w.alloc (.cells #[.int .i64 0,.int .i64 0,.int .i64 0,.int .i64 0,.int .i64 0,.int .i64 0,.int .i64 0,.int .i64 0] 81)).alloc (.cells zcB 220)).heap[w.heap.size]?=some (.cells #[.int .i64 0,.int .i64 0,.int .i64 0,.int .i64 0,.int .i64 0,.int .i64 0,.int .i64 0,.int .i64 0] 81 (0,0)):=by
  rw [Below.heap_alloc _ _ _ (by rw [hs1];omega)];exact heap_alloc_last _ _
 have hr2:Reads ((w.alloc (.cells #[.int .i64 0,.int .i64 0,.int .i64 0,.int .i64 0,.int .i64 0,.int .i64 0,.int .i64 0,.int .i64 0] 81)).alloc (.cells zcB 220)) w.heap.size A 128 (bts l):=hr.below hb0
 obtain ⟨W1,hrun,hblk,hbel⟩:=bytes_run _ (w.heap.size+1) 0 128 128 c _ A l (List.replicate 128 0) 220 3 h1 hr2 (by decide) (by decide) (by decide)
 rw [splice_whole (by rw [bts_length,bts_length,hl];rfl)] at hblk
 have hb1:=hbel w.heap.size w (by omega) hb0
 have h0b:=((hbel (w.heap.size+1) _ (Nat.le_refl _) (Below.refl _ _)).block w.heap.size (by omega)).trans h0
 have HT:=hid (hT.below hT.size hb1)
 have HW:=hid (hW.below hW.size hb1)
 have hg1:w.heap.size+1<W1.heap.size:=by
  rcases Nat.lt_or_ge (w.heap.size+1) W1.heap.size with h | h
  ·exact h
  ·rw [Array.getElem?_eq_none h] at hblk;cases hblk
 have H0:=hid h0b
 have H1:=hid hblk
 have HB:=hid hb1
 clear hbel h0 h1 h0b hb1 hs hr hT hW hr2 hs1
 have hz0:=zero_block
 have hzn:=zcB_ne
 go_enter Tryz.func123,Tryz.ntmps123
 go_wp2_with (with_reducible refine wpList_load_row rfl 220 (.tmp 4) rfl (w.heap.size+1) rfl 220 _ (0,0) _ H1.out Tryz.underlying220 rfl hi61 ?_)
 refine (QN.out W1 HW.out).mono ?_
 rintro e w3 ⟨rfl,hb3⟩
 have HL:=hid hl
 clear QN hrun hz0 hzn hb0 hwsz htsz
 generalize supOf l=Sx at *
 obtain ⟨x0,x1,x2,x3,x4,x5,x6,x7⟩:=Sx
 simp only [Sup.val,Sup.cells] at *
 generalize hk:encL (Sup.nums ⟨x0,x1,x2,x3,x4,x5,x6,x7⟩)=k at *
 generalize hrb:Sup.right ⟨x0,x1,x2,x3,x4,x5,x6,x7⟩=rb at *
 clear hk hrb
 generalize heb:(k == l)=eb at *
 clear heb
 have hrow5:(w3.alloc (.cells #[.int .i64 x0,.int .i64 x1,.int .i64 x2,.int .i64 x3,.int .i64 x4,.int .i64 x5,.int .i64 x6,.int .i64 x7] 81)).heap[w3.heap.size]?=some (.cells #[.int .i64 x0,.int .i64 x1,.int .i64 x2,.int .i64 x3,.int .i64 x4,.int .i64 x5,.int .i64 x6,.int .i64 x7] 81 (0,0)):=heap_alloc_last _ _
 have hb35:Below w3.heap.size w3 (w3.alloc (.cells #[.int .i64 x0,.int .i64 x1,.int .i64 x2,.int .i64 x3,.int .i64 x4,.int .i64 x5,.int .i64 x6,.int .i64 x7] 81)):=(Below.refl _ _).alloc (Nat.le_refl _) _
 have hsz5:(w3.alloc (.cells #[.int .i64 x0,.int .i64 x1,.int .i64 x2,.int .i64 x3,.int .i64 x4,.int .i64 x5,.int .i64 x6,.int .i64 x7] 81)).heap.size=w3.heap.size+1:=by simp
 go_wp2_with fail
 generalize w3.alloc (.cells #[.int .i64 x0,.int .i64 x1,.int .i64 x2,.int .i64 x3,.int .i64 x4,.int .i64 x5,.int .i64 x6,.int .i64 x7] 81)=w5 at *
 have hsz1:W1.heap.size<=w3.heap.size:=hb3.size
 have hb5:=hb3.trans (hb35.mono hsz1)
 have HB5:=hid (HB.out.trans (hb5.mono (by omega)))
 have hle5:W1.heap.size<=w5.heap.size:=by omega
 have HT5:=hid (show ∀W',Below w5.heap.size w5 W'->Tabs W' from fun W' h=>(HT.out.below HT.out.size hb5).below (by have:=HT.out.size;omega) h)
 have HW5:=hid (show ∀W',Below w5.heap.size w5 W'->Wid W' from fun W' h=>(HW.out.below HW.out.size hb5).below (by have:=HW.out.size;omega) h)
 have R0:=hid (show ∀W',Below w5.heap.size w5 W'->W'.heap[w.heap.size]?=some (.cells #[.int .i64 0,.int .i64 0,.int .i64 0,.int .i64 0,.int .i64 0,.int .i64 0,.int .i64 0,.int .i64 0] 81 (0,0)) from fun W' h=>(h.block _ (by omega)).trans ((hb5.block _ (by omega)).trans H0.out))
 have RW:=hid (show ∀W',Below w5.heap.size w5 W'->W'.heap[w.heap.size+1]?=some (.cells (bts l).toArray 220 (0,0)) from fun W' h=>(h.block (w.heap.size+1) (by omega)).trans ((hb5.block _ hg1).trans H1.out))
 generalize hg5:w3.heap.size=g5 at *
 have hc5:=cells8_of hrow5
 have kk:∀i W',Below w5.heap.size w5 W'->W'.cell? ⟨g5,i,none⟩=w5.cell? ⟨g5,i,none⟩:=fun i W' hb=>hb.cell (p:=⟨g5,i,none⟩) (by show g5<w5.heap.size;omega)
 have k0:=fun W' (h:Below w5.heap.size w5 W')=>(kk 0 W' h).trans hc5.1
 have k1:=fun W' (h:Below w5.heap.size w5 W')=>(kk 1 W' h).trans hc5.2.1
 have k2:=fun W' (h:Below w5.heap.size w5 W')=>(kk 2 W' h).trans hc5.2.2.1
 have k3:=fun W' (h:Below w5.heap.size w5 W')=>(kk 3 W' h).trans hc5.2.2.2.1
 have k4:=fun W' (h:Below w5.heap.size w5 W')=>(kk 4 W' h).trans hc5.2.2.2.2.1
 have k5:=fun W' (h:Below w5.heap.size w5 W')=>(kk 5 W' h).trans hc5.2.2.2.2.2.1
 have k6:=fun W' (h:Below w5.heap.size w5 W')=>(kk 6 W' h).trans hc5.2.2.2.2.2.2.1
 have k7:=fun W' (h:Below w5.heap.size w5 W')=>(kk 7 W' h).trans hc5.2.2.2.2.2.2.2.1
 have heq:∀w,(Op.equalIn 10000 220 (.agg (bts k).toArray) (.agg (bts l).toArray)).run Tryz.prog w=.ok eb w:=HEQ.out
 clear hc5 kk hb3 hb35 hrow5 hb5 HB H0 H1 HT HW hlk HEQ hl HL
 generalize (bts l).toArray=X at *
 generalize (bts k).toArray=Y at *
 have hg5w:=hid hsz5
 have hle:=hid (Nat.le_trans (Nat.le_of_lt hg1) hle5)
 clear hsz5 hg5 hsz1 hle5 hg1
 cases rb
 ·refine wp_region_held_drew (S:=fun W'=>Below w5.heap.size w5 W') (by kernel_rfl) ((Below.refl _ _).drew) (fun hHeld=>?_)
  refine tk 0 16 ?_
  refine r1 1 (some 17) fun K hK=>?_
  go_simp
  refine (QR.out _).mono ?_
  rintro e w9 ⟨rfl,hb9⟩
  refine hK.out _ _ (below_on hHeld hb9) (fun hHeld=>?_)
  clear hK K
  try simp only [Act.put,List.setIfInBounds_toArray,List.set_cons_zero,List.set_cons_succ]
  refine tk 2 18 ?_
  refine tk 3 19 ?_
  refine tu 4 20 ?_
  refine tu 5 21 ?_
  refine tu 6 22 ?_
  refine tu 7 23 ?_
  refine tk 8 24 ?_
  refine wpAnyH_done (by kernel_rfl) ?_ _
  have hb8:=HB5.out.trans (hHeld.mono (Nat.le_trans (Nat.le_succ _) hle.out))
  have h0:=R0.out _ hHeld
  clear k0 k1 k2 k3 k4 k5 k6 k7
  obtain ⟨k0,k1,k2,k3,k4,k5,k6,k7,f0,f1,f2,f3,f4,f5,f6,f7⟩:=cells8_of h0
  have s0:=store0 h0 (.int .i64 0) (by rfl)
  have HROW:=put8_row h0 (.int .i64 0) (.int .i64 0) (.int .i64 0) (.int .i64 0) (.int .i64 0) (.int .i64 0) (.int .i64 0) (.int .i64 0)
  have HLV:=hid (run_loadVar_row (P:=Tryz.prog) _ w.heap.size 81 81 _ (0,0) _ HROW Tryz.underlying81 rfl info_sup)
  have HBE:=hid (put8_below (g:=w.heap.size) hb8 (Nat.le_refl _) (.int .i64 0) (.int .i64 0) (.int .i64 0) (.int .i64 0) (.int .i64 0) (.int .i64 0) (.int .i64 0) (.int .i64 0))
  clear HROW h0 hb8
  go_wp2_with fail
  refine bodyPost_ret (results_cell2 (g:=w.heap.size) Tryz.results123 rfl HLV.out rfl) rfl ?_
  exact ⟨by rw [HD.out.1,HD.out.2];rfl,HBE.out⟩
 ·cases eb
  ·refine wp_region_held_drew (S:=fun W'=>Below w5.heap.size w5 W') (by kernel_rfl) ((Below.refl _ _).drew) (fun hHeld=>?_)
   refine tk 0 16 ?_
   refine r1 1 (some 17) fun K hK=>?_
   go_simp
   refine (QR.out _).mono ?_
   rintro e w9 ⟨rfl,hb9⟩
   refine hK.out _ _ (below_on hHeld hb9) (fun hHeld=>?_)
   clear hK K
   try simp only [Act.put,List.setIfInBounds_toArray,List.set_cons_zero,List.set_cons_succ]
   refine tk 2 18 ?_
   refine tk 3 19 ?_
   refine tk 4 20 ?_
   refine wpAnyH_take (i:=6) (oi:=⟨some 22,_,_,_,_,_⟩) (v:=.agg X) rfl (by kernel_rfl) (by kernel_rfl) (by kernel_rfl) (fun _ _ _ h=>h) (Or.inl ⟨by rfl,fun w1 h=>exec_load_block (.tmp 4) rfl (w.heap.size+1) rfl X (RW.out w1 h) hi61⟩) (by assumption) ?_
   try simp only [Act.put,List.setIfInBounds_toArray,List.set_cons_zero,List.set_cons_succ]
   refine r1 5 (some 21) fun K hK=>?_
   go_simp
   refine (QB.out rfl _ (HT5.out _ hHeld) (HW5.out _ hHeld)).mono ?_
   rintro e w10 ⟨rfl,hb10⟩
   refine hK.out _ _ (below_on hHeld hb10) (fun hHeld=>?_)
   clear hK K
   try simp only [Act.put,List.setIfInBounds_toArray,List.set_cons_zero,List.set_cons_succ]
   refine tk 7 23 ?_
   refine tk 8 24 ?_
   refine wpAnyH_done (by kernel_rfl) ?_ _
   have hb8:=HB5.out.trans (hHeld.mono (Nat.le_trans (Nat.le_succ _) hle.out))
   have h0:=R0.out _ hHeld
   clear k0 k1 k2 k3 k4 k5 k6 k7
   obtain ⟨k0,k1,k2,k3,k4,k5,k6,k7,f0,f1,f2,f3,f4,f5,f6,f7⟩:=cells8_of h0
   have s0:=store0 h0 (.int .i64 0) (by rfl)
   have HROW:=put8_row h0 (.int .i64 0) (.int .i64 0) (.int .i64 0) (.int .i64 0) (.int .i64 0) (.int .i64 0) (.int .i64 0) (.int .i64 0)
   have HLV:=hid (run_loadVar_row (P:=Tryz.prog) _ w.heap.size 81 81 _ (0,0) _ HROW Tryz.underlying81 rfl info_sup)
   have HBE:=hid (put8_below (g:=w.heap.size) hb8 (Nat.le_refl _) (.int .i64 0) (.int .i64 0) (.int .i64 0) (.int .i64 0) (.int .i64 0) (.int .i64 0) (.int .i64 0) (.int .i64 0))
   clear HROW h0 hb8
   go_wp2_with fail
   refine bodyPost_ret (results_cell2 (g:=w.heap.size) Tryz.results123 rfl HLV.out rfl) rfl ?_
   exact ⟨by rw [HD.out.1,HD.out.2];rfl,HBE.out⟩
  ·refine wp_region_held_drew (S:=fun W'=>Below w5.heap.size w5 W') (by kernel_rfl) ((Below.refl _ _).drew) (fun hHeld=>?_)
   refine tk 0 16 ?_
   refine r1 1 (some 17) fun K hK=>?_
   go_simp
   refine (QR.out _).mono ?_
   rintro e w9 ⟨rfl,hb9⟩
   refine hK.out _ _ (below_on hHeld hb9) (fun hHeld=>?_)
   clear hK K
   try simp only [Act.put,List.setIfInBounds_toArray,List.set_cons_zero,List.set_cons_succ]
   refine tk 2 18 ?_
   refine tk 3 19 ?_
   refine tk 4 20 ?_
   refine wpAnyH_take (i:=6) (oi:=⟨some 22,_,_,_,_,_⟩) (v:=.agg X) rfl (by kernel_rfl) (by kernel_rfl) (by kernel_rfl) (fun _ _ _ h=>h) (Or.inl ⟨by rfl,fun w1 h=>exec_load_block (.tmp 4) rfl (w.heap.size+1) rfl X (RW.out w1 h) hi61⟩) (by assumption) ?_
   try simp only [Act.put,List.setIfInBounds_toArray,List.set_cons_zero,List.set_cons_succ]
   refine r1 5 (some 21) fun K hK=>?_
   go_simp
   refine (QB.out rfl _ (HT5.out _ hHeld) (HW5.out _ hHeld)).mono ?_
   rintro e w10 ⟨rfl,hb10⟩
   refine hK.out _ _ (below_on hHeld hb10) (fun hHeld=>?_)
   clear hK K
   try simp only [Act.put,List.setIfInBounds_toArray,List.set_cons_zero,List.set_cons_succ]
   refine tk 7 23 ?_
   refine tk 8 24 ?_
   refine wpAnyH_done (by kernel_rfl) ?_ _
   have hb8:=HB5.out.trans (hHeld.mono (Nat.le_trans (Nat.le_succ _) hle.out))
   have h0:=R0.out _ hHeld
   have t0:=k0 _ hHeld
   have t1:=k1 _ hHeld
   have t2:=k2 _ hHeld
   have t3:=k3 _ hHeld
   have t4:=k4 _ hHeld
   have t5:=k5 _ hHeld
   have t6:=k6 _ hHeld
   have t7:=k7 _ hHeld
   clear k0 k1 k2 k3 k4 k5 k6 k7
   obtain ⟨k0,k1,k2,k3,k4,k5,k6,k7,f0,f1,f2,f3,f4,f5,f6,f7⟩:=cells8_of h0
   have s0:=store0 h0 (.int .i64 x0) (by rfl)
   have HROW:=put8_row h0 (.int .i64 x0) (.int .i64 x1) (.int .i64 x2) (.int .i64 x3) (.int .i64 x4) (.int .i64 x5) (.int .i64 x6) (.int .i64 x7)
   have HLV:=hid (run_loadVar_row (P:=Tryz.prog) _ w.heap.size 81 81 _ (0,0) _ HROW Tryz.underlying81 rfl info_sup)
   have HBE:=hid (put8_below (g:=w.heap.size) hb8 (Nat.le_refl _) (.int .i64 x0) (.int .i64 x1) (.int .i64 x2) (.int .i64 x3) (.int .i64 x4) (.int .i64 x5) (.int .i64 x6) (.int .i64 x7))
   clear HROW h0 hb8
   go_wp2_with fail
   refine bodyPost_ret (results_cell2 (g:=w.heap.size) Tryz.results123 rfl HLV.out rfl) rfl ?_
   exact ⟨by rw [HD.out.1,HD.out.2];rfl,HBE.out⟩
end Go.Proofs.YtepoepmndckmaaaGreatDoor.S
