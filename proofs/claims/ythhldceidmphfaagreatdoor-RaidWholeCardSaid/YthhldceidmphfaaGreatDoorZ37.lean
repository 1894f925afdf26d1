/-
  What the statement's proof rests on, part 37.
  Conditions: each theorem's own.
-/
import Derived.Test.YthhldceidmphfaaGreatDoorZ36
import Derived.Test.YthhldceidmphfaaGreatDoorZ33
namespace Go.Proofs.YthhldceidmphfaaGreatDoor.U
open Go.RowKit Go.Maps
def newestOf (l:List Go.Proofs.YthhldceidmphfaaGreatDoor.S.Sup):Go.Proofs.YthhldceidmphfaaGreatDoor.S.Sup:=Go.Proofs.YthhldceidmphfaaGreatDoor.S.supAt l (Go.Proofs.YthhldceidmphfaaGreatDoor.S.nwst l l.length)
def slotOf (x:Go.Proofs.YthhldceidmphfaaGreatDoor.S.Sup):Nat:=(x.gen%2).toNat
inductive OpenR (n:Nat) (S:Sh.Sf):Int→Stt→Prop
 | off:S.off≠false→OpenR n S 3 ⟨S,fun _=>-1⟩
 | none (S1:Sh.Sf):S.off=false→Same S S1→sayTo S n 0=[]→OpenR n S 8 ⟨S1,fun _=>-1⟩
 | agree (S1:Sh.Sf) (y:Int) (b:Stt):S.off=false→Same S S1→sayTo S n 0≠[]→AgR n (newestOf (sayTo S n 0)) (slotOf (newestOf (sayTo S n 0))) ⟨S1,fun _=>-1⟩ y b→y≠0→OpenR n S y b
 | replay (S1:Sh.Sf) (b:Stt) (y:Int) (t:Stt) (U:Set0):S.off=false→Same S S1→sayTo S n 0≠[]→AgR n (newestOf (sayTo S n 0)) (slotOf (newestOf (sayTo S n 0))) ⟨S1,fun _=>-1⟩ 0 b →
   RplR n (newestOf (sayTo S n 0)).logs.toNat (newestOf (sayTo S n 0)) (newestOf (sayTo S n 0)).mem.toNat (newestOf (sayTo S n 0)).str.toNat b noSet y t U→y≠0→OpenR n S y t
 | flush (S1:Sh.Sf) (b t:Stt) (U:Set0) (y:Int) (e:Stt) (D' U':Set0):S.off=false→Same S S1→sayTo S n 0≠[]→AgR n (newestOf (sayTo S n 0)) (slotOf (newestOf (sayTo S n 0))) ⟨S1,fun _=>-1⟩ 0 b →
   RplR n (newestOf (sayTo S n 0)).logs.toNat (newestOf (sayTo S n 0)) (newestOf (sayTo S n 0)).mem.toNat (newestOf (sayTo S n 0)).str.toNat b noSet 0 t U→FlR n (newestOf (sayTo S n 0)).logs.toNat noSet U t.S y e D' U'→OpenR n S y e
theorem mem_newest {l:List Go.Proofs.YthhldceidmphfaaGreatDoor.S.Sup} (h:l≠[]):newestOf l∈l:=by
 have hl:0<l.length:=Nat.pos_of_ne_zero fun e=>h (List.eq_nil_of_length_eq_zero e)
 have hn:=Go.Proofs.YthhldceidmphfaaGreatDoor.S.nwst_lt l l.length l.length hl (Nat.le_refl _)
 unfold newestOf Go.Proofs.YthhldceidmphfaaGreatDoor.S.supAt
 rw [List.getD_eq_getElem?_getD,List.getElem?_eq_getElem hn]
 exact List.getElem_mem hn
theorem mem_sayTo {S:Sh.Sf} {n:Nat} {x:Go.Proofs.YthhldceidmphfaaGreatDoor.S.Sup} (h:x∈sayTo S n 0):∃d b,d<n∧b<2∧sayO S d b=some x:=by
 unfold sayTo at h
 obtain ⟨⟨d,b⟩,h1,h2⟩:=List.mem_filterMap.1 h
 obtain ⟨h3,h4⟩:=slotsTo_all h1
 exact ⟨d,b,h3,h4,h2⟩
theorem supCells_at:∀(l:List Go.Proofs.YthhldceidmphfaaGreatDoor.S.Sup) (i j:Nat),i<l.length→j<8→(supCells l)[i*8+j]?=(Go.Proofs.YthhldceidmphfaaGreatDoor.S.supAt l i).cells[j]?
 | [],_,_,h,_=>by simp at h
 | s :: t,0,j,_,hj=>by
  show (s.cells.toList++supCells t)[0*8+j]?=_
  rw [Nat.zero_mul,Nat.zero_add,List.getElem?_append_left (by show j<8;exact hj)]
  show s.cells.toList[j]?=s.cells[j]?
  simp
 | s :: t,i+1,j,h,hj=>by
  have h8:s.cells.toList.length=8:=rfl
  show (s.cells.toList++supCells t)[(i+1)*8+j]?=_
  rw [List.getElem?_append_right (by omega),h8,show (i+1)*8+j-8=i*8+j by omega]
  exact supCells_at t i j (by simpa using h) hj
theorem supsAre_own {w:World} {base:Nat} {u:Value} {l:List Go.Proofs.YthhldceidmphfaaGreatDoor.S.Sup} (h:SupOwn w base u l):(l=[]∧∃A c,u=.slice A 0 c)∨(l≠[]∧∃g c,u=.slice (some ⟨g,0,none⟩) l.length c∧base≤g∧g<w.heap.size∧(∀wX:World,wX.heap[g]?=w.heap[g]?→∀i j v,i<l.length→(Go.Proofs.YthhldceidmphfaaGreatDoor.S.supAt l i).cells[j]?=some v→wX.cell? ⟨g,i*8+j,none⟩=some v)):=by
 by_cases hl:l=[]
 ·subst hl
  refine .inl ⟨rfl,?_⟩
  rcases h.2 with ⟨rfl,_⟩ | ⟨g,cap,cur,rfl,_⟩
  ·exact ⟨none,0,rfl⟩
  ·exact ⟨_,cap,rfl⟩
 ·refine .inr ⟨hl,?_⟩
  rcases h.2 with ⟨_,h0⟩ | ⟨g,cap,cur,rfl,hb,hh,hnc,hm,hs,ht⟩
  ·exact absurd (List.eq_nil_of_length_eq_zero h0) hl
  ·refine ⟨g,cap,rfl,hb,lt_of_block hh,fun wX hX i j v hi hv=>?_⟩
   have hj:j<8:=(Array.getElem?_eq_some_iff.1 hv).1
   rw [cell_of_row _ _ (i*8+j) _ _ _ (hX.trans hh)]
   have h1:=supCells_at l i j hi hj
   rw [hv,← ht,List.getElem?_take,if_pos (by omega)] at h1
   rw [← Array.getElem?_toList];exact h1
theorem supsAre_of {w:World} {g:Nat} {l:List Go.Proofs.YthhldceidmphfaaGreatDoor.S.Sup} (hg:g<w.heap.size) (h:∀i j v,i<l.length→(Go.Proofs.YthhldceidmphfaaGreatDoor.S.supAt l i).cells[j]?=some v→w.cell? ⟨g,i*8+j,none⟩=some v):Go.Proofs.YthhldceidmphfaaGreatDoor.S.SupsAre w w.heap.size (some ⟨g,0,none⟩) l.length l :=
 ⟨rfl,fun _=>⟨g,0,rfl,hg,fun i s hs j v hv=>by
  obtain ⟨hi,e⟩:=List.getElem?_eq_some_iff.1 hs
  rw [Nat.zero_add]
  refine h i j v hi ?_
  unfold Go.Proofs.YthhldceidmphfaaGreatDoor.S.supAt
  rw [List.getD_eq_getElem?_getD,hs]
  exact hv⟩⟩
theorem AgR.keep {n k:Nat} {x:Go.Proofs.YthhldceidmphfaaGreatDoor.S.Sup} {a b:Stt} {y:Int} (h:AgR n x k a y b):b.S.disks.length=a.S.disks.length∧b.S.sectors=a.S.sectors:=by
 rcases h with ⟨_,h⟩ | ⟨_,j,c,_,h,h2⟩
 ·exact ⟨h.keep.len,h.keep.sectors⟩
 ·exact ⟨h2.keep.len.trans h.keep.len,h2.keep.sectors.trans h.keep.sectors⟩
theorem AgR.waits {n k m:Nat} {x:Go.Proofs.YthhldceidmphfaaGreatDoor.S.Sup} {a b:Stt} {y:Int} (hn:n≤17) (h:AgR n x k a y b) (hL:∀x∈a.S.disks,x.waits.length≤m):∀x∈b.S.disks,x.waits.length≤m+60:=by
 rcases h with ⟨_,h⟩ | ⟨_,j,c,_,h,h2⟩
 ·intro z hz
  have:=h.waits hL z hz
  omega
 ·intro z hz
  have:=h2.waits (h.waits hL) z hz
  omega
theorem RplR.zero {n LL M St:Nat} {s:Go.Proofs.YthhldceidmphfaaGreatDoor.S.Sup} {a b:Stt} {U U':Set0} (h:RplR n LL s M St a U 0 b U'):RpSteps LL s M St (slotsTo LL n 0) a U b U':=by
 rcases h with ⟨_,h⟩ | ⟨h0,_⟩
 ·exact h
 ·exact absurd rfl h0
theorem FlR.none_left {n L:Nat} {D U D' U':Set0} {S:Sh.Sf} {y:Int} {b:Stt} (h:FlR n L D U S y b D' U') (h0:y=0):D'=noSet∧U'=noSet:=by
 cases h with
 | first o' e=>exact absurd h0 e
 | slots o1 y b _ _ _ e=>exact absurd h0 e
 | again o1 o' b _ _ _ e=>exact absurd h0 e
 | none o' _ _=>exact ⟨rfl,rfl⟩
 | all o1 o' b _ _ _ _=>exact ⟨rfl,rfl⟩
theorem fits_of {n nb d b:Nat} {x:Go.Proofs.YthhldceidmphfaaGreatDoor.S.Sup} {S:Sh.Sf} (h:SayIs n nb d b x) (hn:S.disks.length=n) (hb:blk S.sectors=nb):Fits n x.logs.toNat x x.mem.toNat x.str.toNat S:=by
 obtain ⟨hr,h2,h3,h4,h5⟩:=h
 obtain ⟨r1,r2,r3,r4,r5,r6,r7,r8⟩:=Go.Proofs.YthhldceidmphfaaGreatDoor.S.right_parts hr
 have hm:x.most≤x.str:=by unfold Go.Proofs.YthhldceidmphfaaGreatDoor.S.Sup.most;split<;>omega
 unfold Fit at h4
 exact ⟨by omega,by omega,by omega,by omega,by omega,by omega,by omega,by omega,by omega,by omega,by omega,⟨by omega,by omega⟩,hn,by omega⟩
section
variable {B:Nat} {W w w':World} {p n:Nat} {S:Sh.Sf} {F:Nat→Prop}
def OpenQ (B:Nat) (W w:World) (p n:Nat) (S:Sh.Sf) (F:Nat→Prop) (e:Ending) (w':World):Prop :=
  ∃(y:Int) (t:Stt),OpenR n S y t ∧
    ((y≠0∧e=.returned (.tuple #[.pointer none,.int .i64 y])∧∃F',Sh.At B W w' p t.S F'∧Sh.Moves F w F' w') ∨
     (y=0∧∃(J:Vk) (F':Nat→Prop),e=.returned (.tuple #[.pointer (some ⟨J.v,0,none⟩),.int .i64 0])∧J.B=B∧J.W=W∧J.p=p∧J.n=n∧(newestOf (sayTo S n 0)).logs=(J.L:Int)∧Vr J w' (newestOf (sayTo S n 0)) t.o t.S F' noSet noSet∧Sh.Moves F w (AllV J F') w'))
set_option maxRecDepth 20000 in
theorem open_off (h:Sh.At B W w p S F) (hoff:S.off=true):Calls Tryz.prog 37 #[.pointer (some ⟨p,0,none⟩)] w (OpenQ B W w p n S F):=by
 have HO:=Lib.hid (by
  obtain ⟨D,gs,q⟩:=h.shelf
  exact Sh.off_any q)
 rw [hoff] at HO
 have HH:=Lib.hid (And.intro h hoff)
 clear h hoff
 go_enter Tryz.func37,Tryz.ntmps37
 go_wp2_with (go_at_call 44;refine HO.out.mono ?_;rintro e w' ⟨rfl,rfl⟩)
 go_ret2
 exact ⟨3,⟨S,fun _=>-1⟩,.off (by rw [HH.out.2];simp),.inl ⟨by decide,rfl,F,HH.out.1,moves_up (Below.refl _ _)⟩⟩
set_option maxRecDepth 20000 in
set_option maxHeartbeats 8000000 in
theorem open_on (h:Sh.At B W w p S F) (hn:S.disks.length=n) (h1:1≤n) (h17:n≤17) (hT:Tabs W) (hTB:max 1 2+1≤B) (hWi:Go.Proofs.YthhldceidmphfaaGreatDoor.S.Wid W) (hWB:0+1≤B) (hFl:Flds W) (hFB:4+1≤B) (hP:Go.Proofs.YthhldceidmphfaaGreatDoor.L.Tab W) (hPB:3+1≤B)
  (hoff:S.off=false) (hbb:2≤blk S.sectors) (hsay:∀d b x,d<n→b<2→sayO S d b=some x→SayIs n (blk S.sectors) d b x) (hdk:∀d b x e,d<n→b<2→e<n→sayO S d b=some x→({ x with disk:=(e:Int) }:Go.Proofs.YthhldceidmphfaaGreatDoor.S.Sup).right=true)
  {m:Nat} (hL:∀k∈S.disks,k.waits.length≤m) (hm:m≤100000):Calls Tryz.prog 37 #[.pointer (some ⟨p,0,none⟩)] w (OpenQ B W w p n S F):=by
 have HO:=Lib.hid (by
  obtain ⟨D,gs,q⟩:=h.shelf
  exact Sh.off_any q)
 rw [hoff] at HO
 have HOV:=Lib.hid (over_ok w p n h.shelf hn h1 h17)
 have HH:=Lib.hid (And.intro h (And.intro hn (And.intro hoff (And.intro hbb (And.intro hsay (And.intro hdk hL))))))
 clear h hn hoff hbb hsay hdk hL
 go_enter Tryz.func37,Tryz.ntmps37
 go_wp2_with (go_at_call 44;refine HO.out.mono ?_;rintro e w' ⟨rfl,rfl⟩)
 refine HOV.out.mono ?_
 rintro e w1 ⟨v,t,mo,mu,a,rfl,hO⟩
 have V1:=over_vo HH.out.1 hO
 have HNE:Hid (v≠t∧mo≠v∧mo≠t∧mo≠mu∧mu≠v∧mu≠t):=Lib.hid (by obtain ⟨_,o2,o3,o4⟩:=hO.ord;omega)
 have HAW:Hid (∀b,AllB F a n b∨b=v∨b=t∨b=mo∨b=mu→F b∨w.heap.size≤b):=Lib.hid fun b hb=>by
  obtain ⟨o1,o2,o3,o4⟩:=hO.ord
  rcases hb with (e | ⟨i,hi,rfl⟩) | rfl | rfl | rfl | rfl
  ·exact .inl e
  ·have:=hO.low i hi;exact .inr (by omega)
  all_goals exact .inr (by omega)
 have HSG:=Lib.hid (sayings_any V1 hT hTB hWi hWB HH.out.2.1 HH.out.2.2.2.1 HH.out.2.2.2.2.1)
 have HO1:=Lib.hid (And.intro hO V1)
 clear hO V1 HO HOV
 go_wp2_with fail
 refine HSG.out.mono ?_
 rintro e w2 ⟨u,rfl,⟨S2,s2,V2,O2⟩,hown⟩
 have HV2:=Lib.hid (And.intro s2 (And.intro V2 O2))
 clear s2 V2 O2 HSG
 have HLE:=Lib.hid (sayTo_le S n 0)
 have HME:=Lib.hid (fun (x:Go.Proofs.YthhldceidmphfaaGreatDoor.S.Sup) (e:x∈sayTo S n 0)=>mem_sayTo e)
 have HRL:Hid (∀y t,OpenR n S y t→OpenR n S y t):=Lib.hid fun _ _ e=>e
 have HQ:∀(e:Ending) (w':World),OpenQ B W w p n S F e w'→OpenQ B W w p n S F e w':=fun _ _ e=>e
 rcases supsAre_own hown with ⟨hl,A,c,rfl⟩ | ⟨hl,gq,c,rfl,hg1,hg2,hcell⟩
 ·have HNL:=Lib.hid hl
  have HNW:=Lib.hid (Go.Proofs.YthhldceidmphfaaGreatDoor.S.newest_any A 0 c w2.heap.size [] w2 ⟨rfl,fun e=>absurd e (by decide)⟩ (Nat.le_refl _) (by decide))
  rw [show decide (0<0)=false from rfl] at HNW
  clear hown hl
  go_wp2_with fail
  refine HNW.out.mono ?_
  rintro e w3 ⟨rfl,hb3⟩
  obtain ⟨s2,V2,O2⟩:=HV2.out
  have HB3:=Lib.hid (And.intro s2 (And.intro V2 (And.intro O2 hb3)))
  clear s2 V2 O2 hb3
  go_wp2
  go_ret2
  obtain ⟨s2,V2,O2,hb3⟩:=HB3.out
  refine ⟨8,⟨S2,fun _=>-1⟩,.none S2 HH.out.2.2.1 s2 HNL.out,.inl ⟨by decide,rfl,F,(V2.grown hb3).ds.on,?_⟩⟩
  exact (moves_up HO1.out.1.bel).trans (⟨O2,fun b e=>.inl e⟩:Sh.Moves F w1 F w2) |>.trans (moves_up hb3)
 ·have HNL:=Lib.hid hl
  have hpos:0<(sayTo S n 0).length:=Nat.pos_of_ne_zero fun e=>hl (List.eq_nil_of_length_eq_zero e)
  have hlt:=Go.Proofs.YthhldceidmphfaaGreatDoor.S.nwst_lt (sayTo S n 0) (sayTo S n 0).length (sayTo S n 0).length hpos (Nat.le_refl _)
  have HNW:=Lib.hid (Go.Proofs.YthhldceidmphfaaGreatDoor.S.newest_any (some ⟨gq,0,none⟩) (sayTo S n 0).length c w2.heap.size (sayTo S n 0) w2 (supsAre_of hg2 (hcell w2 rfl)) (Nat.le_refl _) (by have:=HLE.out;omega))
  rw [decide_eq_true hpos] at HNW
  have hxm:=mem_newest hl
  obtain ⟨dx,bx,hdx,hbx,hsx⟩:=HME.out _ hxm
  have HSI:=Lib.hid (HH.out.2.2.2.2.1 dx bx _ hdx hbx hsx)
  have HDK:=Lib.hid (fun e he=>HH.out.2.2.2.2.2.1 dx bx _ e hdx hbx he hsx)
  have hc:∀wX:World,wX.heap[gq]?=w2.heap[gq]?→∀j v,(newestOf (sayTo S n 0)).cells[j]?=some v→wX.cell? ⟨gq,Go.Proofs.YthhldceidmphfaaGreatDoor.S.nwst (sayTo S n 0) (sayTo S n 0).length*8+j,none⟩=some v:=fun wX hX j v hv=>hcell wX hX _ j v hlt hv
  have HGQ:=Lib.hid (And.intro hg1 hg2)
  have HRW:=Lib.hid (fun (y:Int) (t:Stt) (e:OpenR n S y t)=>e)
  have HQ:∀(e:Ending) (w':World),OpenQ B W w p n S F e w'→OpenQ B W w p n S F e w':=fun _ _ e=>e
  unfold OpenQ at HQ ⊢
  clear hown hl hcell hg1 hg2 hsx hxm
  generalize hxe:newestOf (sayTo S n 0)=x at *
  have HXE:=Lib.hid hxe
  clear hxe
  generalize Go.Proofs.YthhldceidmphfaaGreatDoor.S.nwst (sayTo S n 0) (sayTo S n 0).length=i at *
  obtain ⟨x0,x1,x2,x3,x4,x5,x6,x7⟩:=x
  have HC:Hid (∀wX:World,wX.heap[gq]?=w2.heap[gq]?→wX.cell? ⟨gq,i*8,none⟩=some (.int .i64 x0)∧wX.cell? ⟨gq,i*8+1,none⟩=some (.int .i64 x1)∧wX.cell? ⟨gq,i*8+2,none⟩=some (.int .i64 x2)∧wX.cell? ⟨gq,i*8+3,none⟩=some (.int .i64 x3)∧wX.cell? ⟨gq,i*8+4,none⟩=some (.int .i64 x4)∧wX.cell? ⟨gq,i*8+5,none⟩=some (.int .i64 x5)∧wX.cell? ⟨gq,i*8+6,none⟩=some (.int .i64 x6)∧wX.cell? ⟨gq,i*8+7,none⟩=some (.int .i64 x7)):=Lib.hid fun wX hX=>⟨hc wX hX 0 _ rfl,hc wX hX 1 _ rfl,hc wX hX 2 _ rfl,hc wX hX 3 _ rfl,hc wX hX 4 _ rfl,hc wX hX 5 _ rfl,hc wX hX 6 _ rfl,hc wX hX 7 _ rfl⟩
  clear hc
  go_wp2_with fail
  refine HNW.out.mono ?_
  rintro e w3 ⟨rfl,hb3⟩
  obtain ⟨k0,k1,k2,k3,k4,k5,k6,k7⟩:=HC.out w3 (hb3.block gq HGQ.out.2)
  have h17:n≤17:=by omega
  have HB3:Hid (Same S S2∧Vo B W w3 v p t n mo mu sup0 0 a (fun _=>-1) (fun _=>none) S2 F∧Sh.Only F w w3∧(∀b,AllB F a n b→b<w1.heap.size)∧w2.heap.size≤w3.heap.size∧w3.heap[gq]?=w2.heap[gq]?∧w3.heap[mo]?=some (.map #[] 0)∧w3.heap[mu]?=some (.map #[] 0)):=Lib.hid (by
   obtain ⟨s2,V2,O2⟩:=HV2.out
   obtain ⟨hO,V1⟩:=HO1.out
   have hap:=V1.apart
   have l1:=(Array.getElem?_eq_some_iff.1 hO.opens).1
   have l2:=(Array.getElem?_eq_some_iff.1 hO.used).1
   have nF:∀b,w.heap.size≤b→¬F b:=fun b hb e=>by have:=HH.out.1.shelf.ltF e;omega
   obtain ⟨o1,o2,o3,o4⟩:=hO.ord
   have p1:=(O2.block mo l1 (nF mo (by omega))).trans hO.opens
   have p2:=(O2.block mu l2 (nF mu (by omega))).trans hO.used
   exact ⟨s2,V2.grown hb3,((only_below F hO.bel).trans O2 (fun b e=>.inl e)).trans (only_below F hb3) (fun b e=>.inl e),fun b e=>V1.ds.lt _ e,hb3.size,hb3.block gq HGQ.out.2,(hb3.block mo (Nat.lt_of_lt_of_le l1 O2.size)).trans p1,(hb3.block mu (Nat.lt_of_lt_of_le l2 O2.size)).trans p2⟩)
  have HAG:=Lib.hid (agree_any HB3.out.2.1 hT hTB hWi hWB (HB3.out.1.len.trans HH.out.2.1) (by rw [HB3.out.1.sectors];exact HH.out.2.2.2.1) ⟨x0,x1,x2,x3,x4,x5,x6,x7⟩ (slotOf ⟨x0,x1,x2,x3,x4,x5,x6,x7⟩) (by
    show x0%2=((x0%2).toNat:Int)
    omega) (Go.Proofs.YthhldceidmphfaaGreatDoor.S.right_parts HSI.out.1).1 HDK.out (fun d y hd hy=>by
    rw [sayO_same HB3.out.1] at hy
    rw [HB3.out.1.sectors]
    refine HH.out.2.2.2.2.1 d _ y hd ?_ hy
    show (x0%2).toNat<2
    omega) (m:=m) (by rw [HB3.out.1.disks];exact HH.out.2.2.2.2.2.2) (by omega))
  rw [show (⟨x0,x1,x2,x3,x4,x5,x6,x7⟩:Go.Proofs.YthhldceidmphfaaGreatDoor.S.Sup).val=.agg #[.int .i64 x0,.int .i64 x1,.int .i64 x2,.int .i64 x3,.int .i64 x4,.int .i64 x5,.int .i64 x6,.int .i64 x7] from rfl] at HAG
  clear hb3 HNW HV2
  go_wp2_with fail
  refine HAG.out.mono ?_
  rintro e w4 ⟨y,b4,F4,rfl,hR4,V4,m4⟩
  clear k0 k1 k2 k3 k4 k5 k6 k7 HAG
  have on4:Sh.Only F w w4∧(∀b,AllB F4 a n b→F b∨w.heap.size≤b):=⟨HB3.out.2.2.1.trans m4.1 (fun b e=>HAW.out b (.inl e)),fun b e=>(m4.2 b e).elim (fun e=>HAW.out b (.inl e)) (fun e=>.inr (Nat.le_trans HB3.out.2.2.1.size e))⟩
  by_cases h0:y=0
  ·subst h0
   have hg4:w4.heap[gq]?=w2.heap[gq]?:=(m4.1.block gq (Nat.lt_of_lt_of_le HGQ.out.2 HB3.out.2.2.2.2.1) (fun e=>by have:=HB3.out.2.2.2.1 gq e;have:=HGQ.out.1;omega)).trans HB3.out.2.2.2.2.2.1
   obtain ⟨k0,k1,k2,k3,k4,k5,k6,k7⟩:=HC.out w4 hg4
   have hk4:=hR4.keep
   have hs4:b4.S.sectors=S.sectors:=hk4.2.trans HB3.out.1.sectors
   have hl4:b4.S.disks.length=n:=(hk4.1.trans HB3.out.1.len).trans HH.out.2.1
   have HF:=Lib.hid (fits_of HSI.out hl4 (by rw [hs4]))
   obtain ⟨hmo4,hmu4⟩:w4.heap[mo]?=some (.map #[] 0)∧w4.heap[mu]?=some (.map #[] 0):=by
    have hap:=V4.apart
    have hnn:∀b,(b=mo∨b=mu)→¬AllB F a n b:=fun b hb e=>by
     have h2:=HO1.out.2.apart b e
     rcases hb with rfl | rfl
     ·exact h2.2.2.1 rfl
     ·exact h2.2.2.2 rfl
    obtain ⟨_,_,_,_,_,_,p1,p2⟩:=HB3.out
    exact ⟨(m4.1.block mo (Array.getElem?_eq_some_iff.1 p1).1 (hnn mo (.inl rfl))).trans p1,(m4.1.block mu (Array.getElem?_eq_some_iff.1 p2).1 (hnn mu (.inr rfl))).trans p2⟩
   have HAS:=Lib.hid (as_ok (L:=x4.toNat) V4 ⟨HNE.out.1,HNE.out.2.1,HNE.out.2.2.2.2.1⟩ hl4 ⟨x0,x1,x2,x3,x4,x5,x6,x7⟩ HF.out.logs HF.out.l1 HF.out.l2 (by have:=HF.out.need;show 2+2*x4.toNat≤_;have e:(⟨x0,x1,x2,x3,x4,x5,x6,x7⟩:Go.Proofs.YthhldceidmphfaaGreatDoor.S.Sup).logs.toNat=x4.toNat:=rfl;rw [e] at this;omega))
   rw [show (⟨x0,x1,x2,x3,x4,x5,x6,x7⟩:Go.Proofs.YthhldceidmphfaaGreatDoor.S.Sup).val=.agg #[.int .i64 x0,.int .i64 x1,.int .i64 x2,.int .i64 x3,.int .i64 x4,.int .i64 x5,.int .i64 x6,.int .i64 x7] from rfl] at HAS
   have HK4:=Lib.hid (And.intro hR4 (And.intro on4 (And.intro hmo4 (And.intro hmu4 (And.intro V4.lt V4.apart)))))
   have HW4:=Lib.hid (hR4.waits h17 (m:=m) (by rw [HB3.out.1.disks];exact HH.out.2.2.2.2.2.2))
   clear hg4 hk4 hs4 hl4 hmo4 hmu4 hR4 V4 m4 on4
   go_wp2_with fail
   refine HAS.out.mono ?_
   rintro e w5 ⟨rfl,gn,g5,V5,hg5,hl5,hO5,_⟩
   obtain ⟨hR4,on4,hmo4,hmu4,hlt4,hap4⟩:=HK4.out
   have hne:=HNE.out
   have VR:Vr ⟨B,W,v,p,t,n,mo,mu,x4.toNat,a,gn⟩ w5 ⟨x0,x1,x2,x3,x4,x5,x6,x7⟩ b4.o b4.S F4 noSet noSet :=
    ⟨V5.same_g hg5,hl5,hne,empty_set ((hO5.block mo (Array.getElem?_eq_some_iff.1 hmo4).1 (fun e=>e.elim hne.2.1 hne.2.2.1)).trans hmo4),empty_set ((hO5.block mu (Array.getElem?_eq_some_iff.1 hmu4).1 (fun e=>e.elim hne.2.2.2.2.1 hne.2.2.2.2.2)).trans hmu4)⟩
   have on5:Sh.Moves F w (AllV ⟨B,W,v,p,t,n,mo,mu,x4.toNat,a,gn⟩ F4) w5:=⟨on4.1.trans hO5 (fun b e=>e.elim (fun e=>HAW.out b (.inr (.inl e))) (fun e=>HAW.out b (.inr (.inr (.inl e))))),fun b e=>by
    rcases e with e | e
    ·exact on4.2 b e
    ·exact HAW.out b (.inr e)⟩
   have HRP:=Lib.hid (replay_any (mm:=m+60) (u0:=0) VR HF.out hT hTB hFl hFB hP hPB HW4.out (by omega) (Nat.le_refl 0) (by omega))
   have HK5:=Lib.hid (And.intro hR4 (And.intro VR on5))
   clear hR4 on4 hmo4 hmu4 hlt4 hap4 hne VR on5 V5 hg5 hl5 hO5 HAS HK4 k0 k1 k2 k3 k4 k5 k6 k7
   go_wp2_with fail
   refine HRP.out.mono ?_
   rintro e w6 ⟨y,t6,U6,rfl,hR6,⟨F6,V6,m6⟩,hs6⟩
   obtain ⟨hR4,VR,on5⟩:=HK5.out
   have on6:=on5.trans m6
   by_cases h0:y=0
   ·subst h0
    have hz6:=hR6.zero
    have HFL:=Lib.hid (vFlush_any (mm:=1000000) V6 (HF.out.same hz6.len.1 hz6.len.2) hT hTB (by
     intro z hz
     have:=hz6.waits HW4.out z hz
     rw [slotsTo_length] at this
     have h1:n*x4.toNat≤17*8:=Nat.mul_le_mul h17 HF.out.l2
     have e:(⟨x0,x1,x2,x3,x4,x5,x6,x7⟩:Go.Proofs.YthhldceidmphfaaGreatDoor.S.Sup).logs.toNat=x4.toNat:=rfl
     rw [e] at this
     have h3:z.waits.length≤m+60+3*(n*x4.toNat+0):=this
     omega) (by have:=hs6 rfl;omega) (by omega))
    have HK6:=Lib.hid (And.intro hR4 (And.intro hR6 on6))
    clear hR4 VR on5 V6 m6 hs6 hR6 on6 HRP HK5
    go_wp2_with fail
    refine HFL.out.mono ?_
    rintro e w7 ⟨y,rfl,t7,D7,U7,hR7,F7,V7,m7⟩
    obtain ⟨hR4,hR6,on6⟩:=HK6.out
    have on7:=on6.trans m7
    have HR:Hid (OpenR n S y t7):=Lib.hid (.flush S2 b4 t6 U6 y t7 D7 U7 HH.out.2.2.1 HB3.out.1 HNL.out (by rw [HXE.out];exact hR4) (by rw [HXE.out];exact hR6) (by rw [HXE.out];exact hR7))
    by_cases h0:y=0
    ·subst h0
     obtain ⟨rfl,rfl⟩:=hR7.none_left rfl
     have HE:=Lib.hid (And.intro V7 on7)
     have HLL:=Lib.hid HF.out.logs
     clear hR4 hR6 on6 hR7 V7 m7 on7 HFL HK6
     go_wp2
     go_ret2
     exact ⟨0,t7,HR.out,.inr ⟨rfl,⟨B,W,v,p,t,n,mo,mu,x4.toNat,a,gn⟩,F7,rfl,rfl,rfl,rfl,rfl,by rw [HXE.out];exact HLL.out,by rw [HXE.out];exact HE.out.1,HE.out.2⟩⟩
    ·have hqq:(y == 0)=false:=by simpa using h0
     have HE:Hid (Sh.At B W w7 p t7.S F7∧Sh.Moves F w F7 w7):=Lib.hid ⟨V7.vo.ds.on,on7.1,fun b e=>on7.2 b (.inl (.inl e))⟩
     have H0:=Lib.hid h0
     clear hR4 hR6 on6 hR7 V7 m7 on7 HFL HK6 h0
     go_wp2
     go_ret2
     exact ⟨y,t7,HR.out,.inl ⟨H0.out,rfl,F7,HE.out⟩⟩
   ·have hqq:(y == 0)=false:=by simpa using h0
    have HE:Hid (OpenR n S y t6∧Sh.At B W w6 p t6.S F6∧Sh.Moves F w F6 w6):=Lib.hid ⟨.replay S2 b4 y t6 U6 HH.out.2.2.1 HB3.out.1 HNL.out (by rw [HXE.out];exact hR4) (by rw [HXE.out];exact hR6) h0,V6.vo.ds.on,on6.1,fun b e=>on6.2 b (.inl (.inl e))⟩
    have H0:=Lib.hid h0
    clear hR4 VR on5 V6 m6 hs6 hR6 on6 HRP HK5 h0
    go_wp2
    go_ret2
    exact ⟨y,t6,HE.out.1,.inl ⟨H0.out,rfl,F6,HE.out.2⟩⟩
  ·have hqq:(y == 0)=false:=by simpa using h0
   have HE:Hid (OpenR n S y b4∧Sh.At B W w4 p b4.S F4∧Sh.Moves F w F4 w4):=Lib.hid ⟨.agree S2 y b4 HH.out.2.2.1 HB3.out.1 HNL.out (by rw [HXE.out];exact hR4) h0,V4.ds.on,on4.1,fun b e=>on4.2 b (.inl e)⟩
   have H0:=Lib.hid h0
   clear hR4 V4 m4 on4 h0
   go_wp2
   go_ret2
   exact ⟨y,b4,HE.out.1,.inl ⟨H0.out,rfl,F4,HE.out.2⟩⟩
theorem open_any (h:Sh.At B W w p S F) (hn:S.disks.length=n) (h1:1≤n) (h17:n≤17) (hT:Tabs W) (hTB:max 1 2+1≤B) (hWi:Go.Proofs.YthhldceidmphfaaGreatDoor.S.Wid W) (hWB:0+1≤B) (hFl:Flds W) (hFB:4+1≤B) (hP:Go.Proofs.YthhldceidmphfaaGreatDoor.L.Tab W) (hPB:3+1≤B)
  (hbb:2≤blk S.sectors) (hsay:∀d b x,d<n→b<2→sayO S d b=some x→SayIs n (blk S.sectors) d b x) (hdk:∀d b x e,d<n→b<2→e<n→sayO S d b=some x→({ x with disk:=(e:Int) }:Go.Proofs.YthhldceidmphfaaGreatDoor.S.Sup).right=true)
  {m:Nat} (hL:∀k∈S.disks,k.waits.length≤m) (hm:m≤100000):Calls Tryz.prog 37 #[.pointer (some ⟨p,0,none⟩)] w (OpenQ B W w p n S F):=by
 by_cases hoff:S.off=true
 ·exact open_off h hoff
 ·exact open_on h hn h1 h17 hT hTB hWi hWB hFl hFB hP hPB (by simpa using hoff) hbb hsay hdk hL hm
end
theorem cut_midT (x y z:List Nat):cutAt (x++(y++z)) x.length y.length=y:=by simp [cutAt]
theorem headL_formT (f:Nat→Nat) (k:Nat) (hk:k<3):∃z,headL f=preK f k++(putL (f k) 4++z):=by
 unfold headL bodyL
 generalize putL (Nums.sum 0 (preK f 3++List.replicate 108 0)) 4=s
 obtain rfl | rfl | rfl:k=0∨k=1∨k=2:=by omega
 ·exact ⟨putL (f 1) 4++(putL (f 2) 4++(List.replicate 108 0++s)),by simp only [preK,List.append_assoc]⟩
 ·exact ⟨putL (f 2) 4++(List.replicate 108 0++s),by simp only [preK,List.append_assoc]⟩
 ·exact ⟨List.replicate 108 0++s,by simp only [preK,List.append_assoc]⟩
theorem numAt_headT (f:Nat→Nat) (k:Nat) (hk:k<3) (hf:f k<4294967296):numAt (headL f) k=f k:=by
 obtain ⟨z,hz⟩:=headL_formT f k hk
 have h1:=cut_midT (preK f k) (putL (f k) 4) z
 rw [← hz,preK_length,putL_length] at h1
 unfold numAt
 rw [headL_length,if_pos (by omega),h1,getN_putL]
 exact Nat.mod_eq_of_lt hf
theorem headL_neT (f:Nat→Nat):headL f≠Sh.noughts:=by
 intro e
 obtain ⟨z,hz⟩:=headL_formT f 0 (by decide)
 rw [hz] at e
 have:=congrArg (fun l:List Nat=>l.getD 0 0) e
 simp [preK,signL,Sh.noughts] at this
theorem okD_headT {a b:Nat} (ha:a<1024) (hb:b<15) (l:List Nat) (hl:Small l):okD (headL (numF a b (Nums.sum 0 l))) l 128=true∧numAt (headL (numF a b (Nums.sum 0 l))) 0=a∧numAt (headL (numF a b (Nums.sum 0 l))) 1=b∧numAt (headL (numF a b (Nums.sum 0 l))) 2=Nums.sum 0 l:=by
 have h0:numAt (headL (numF a b (Nums.sum 0 l))) 0=a:=numAt_headT (numF a b (Nums.sum 0 l)) 0 (by decide) (show a<_ by omega)
 have h1:numAt (headL (numF a b (Nums.sum 0 l))) 1=b:=numAt_headT (numF a b (Nums.sum 0 l)) 1 (by decide) (show b<_ by omega)
 have h2:numAt (headL (numF a b (Nums.sum 0 l))) 2=Nums.sum 0 l:=numAt_headT (numF a b (Nums.sum 0 l)) 2 (by decide) (Nums.sum_lt hl (by decide))
 refine ⟨?_,h0,h1,h2⟩
 unfold okD headOf
 rw [h0,h1,decide_eq_true rfl,Bool.and_true]
 exact (mayB_iff (by omega) (by omega)).2 ⟨rfl,by omega,by omega⟩
structure Gr (M:Nat) (g' g:Gh):Prop where
 lack:g'.lack=g.lack
 sure:g'.sure=g.sure
 each:∀st,(g'.dat st=g.dat st∧g'.op st=g.op st)∨∃dm old,g.op st=some (dm,old)∧g'.dat st dm=old∧g'.op st=some (dm,g.dat st dm)∧∀m,m≠dm→m≠pm M st→g'.dat st m=g.dat st m
section
variable {A:Ar} {S S':Sh.Sf} {o:Nat→Int} {g g':Gh} {D U:Set0} {d k st dm:Nat} {y z:Int} {b x old:Sh.Bs} {c:Nat→Option Sh.Bs}
theorem Pd.swap (hg:GhOk A g) (ha:ArOk A) (hop:g.op st=some (dm,old)) (h:Pd A g d c):Pd A (g.write A.M st dm old) d c:=by
 obtain ⟨hst,hdm,hne,hx⟩:=hg.op st dm old hop
 have hu:∀e j dm',g.sl e j=some (st,dm')→dm'=dm:=fun e j dm' hs=>((hg.sl e j st dm' hs).2.2.2.2 dm old hop).symm
 have hpt:=write_part hg ha hst hdm hne hx
 refine ⟨fun st' hst' m hm hn=>?_,fun k hk=>?_,h.part,h.said⟩
 ·by_cases e:st'=st
  ·subst e
   rcases h.blk st' hst' m hm hn with e1 | e1 | ⟨dm2,old2,e1,e2⟩
   ·by_cases c1:m=dm
    ·subst c1
     exact .inr (.inr ⟨m,g.dat st' m,write_op _ _ _ _,.inl ⟨rfl,e1⟩⟩)
    ·by_cases c2:m=pm A.M st'
     ·refine .inr (.inr ⟨dm,g.dat st' dm,write_op _ _ _ _,.inr ⟨c2,?_⟩⟩)
      rw [hpt,part_old hg ha hst' hdm,← c2]
      exact e1
     ·exact .inl (by rw [write_other c1 c2];exact e1)
   ·exact .inr (.inl e1)
   ·rw [hop] at e1
    injection e1 with e1
    injection e1 with h1 h2
    subst h1 h2
    rcases e2 with ⟨e3,e4⟩ | ⟨e3,e4⟩
    ·exact .inl (by rw [e3,write_dm];exact e4)
    ·exact .inl (by rw [e3,write_pm hne];exact e4)
  ·obtain ⟨w1,w2⟩:=write_st (g:=g) (M:=A.M) (dm:=dm) e old
   rcases h.blk st' hst' m hm hn with e1 | e1 | ⟨dm',old',e1,e2⟩
   ·exact .inl (by rw [w1];exact e1)
   ·exact .inr (.inl e1)
   ·refine .inr (.inr ⟨dm',old',by rw [w2];exact e1,?_⟩)
    unfold partG
    rw [w1]
    exact e2
 ·rcases h.slot k hk with e1 | ⟨s1,s2,e1,e2⟩
  ·exact .inl e1
  ·refine .inr ⟨s1,s2,e1,?_⟩
   have ep:partG (g.write A.M st dm old) A.M s1 s2=partG g A.M s1 s2:=by
    by_cases c:s1=st
    ·subst c
     rw [hu _ _ _ e1]
     exact hpt
    ·unfold partG
     rw [(write_st c old).1]
   unfold recH
   rw [ep]
   exact e2
theorem Ci.swap (h:Ci A S o g) (hop:g.op st=some (dm,old)):Ci A S o (g.write A.M st dm old):=by
 obtain ⟨hst,hdm,hne,hx⟩:=h.ok.op st dm old hop
 have hu:∀e j dm',g.sl e j=some (st,dm')→dm'=dm:=fun e j dm' hs=>((h.ok.sl e j st dm' hs).2.2.2.2 dm old hop).symm
 refine ⟨h.ar,h.ok.write h.ar hst hdm hne hx hu,fun d hd ha=>(h.disk d hd ha).more fun c hc=>hc.swap h.ok h.ar hop,h.dead,fun st' dm' old' he h1 h2=>?_,h.len,h.fit,h.sec⟩
 by_cases c:st'=st
 ·subst c
  rw [write_op] at he
  injection he with he
  injection he with e1 e2
  subst e1
  exact h.rc st' dm old hop h1 h2
 ·rw [(write_st c old).2] at he
  exact h.rc st' dm' old' he h1 h2
def Told (A:Ar) (S:Sh.Sf) (g:Gh) (st:Nat):Prop :=
 ∀m,m<A.M→Dead S (A.num st m)=false→(m≠pm A.M st∨g.op st=none∨∀dm old,g.op st=some (dm,old)→Dead S (A.num st dm)=true)→vo S (A.num st m) (A.at st)=some (g.dat st m)
theorem Gr.refl (M:Nat) (g:Gh):Gr M g g:=⟨rfl,rfl,fun _=>.inl ⟨rfl,rfl⟩⟩
theorem Ci.tell (h:Ci A S o g) (hl:Ld A S g) (hon:S.off=false) (hst:st<A.St) :
  ∃g',Ci A S o g'∧Told A S g' st∧g'.lack=g.lack∧g'.sl=g.sl∧g'.sure=g.sure∧(∀st',st'≠st→g'.dat st'=g.dat st'∧g'.op st'=g.op st') ∧
   ((g'.dat st=g.dat st∧g'.op st=g.op st)∨∃dm old,g.op st=some (dm,old)∧g'.dat st dm=old∧g'.op st=some (dm,g.dat st dm)∧∀m,m≠dm→m≠pm A.M st→g'.dat st m=g.dat st m):=by
 have hb:=fun m (hm:m<A.M) (ha:Dead S (A.num st m)=false)=>((h.disk _ (h.ar.num st m hm) ha).now hon).blk st hst m hm rfl
 have hb2:∀m,m<A.M→Dead S (A.num st m)=false→vo S (A.num st m) (A.at st)=some (g.dat st m)∨∃dm old,g.op st=some (dm,old)∧((m=dm∧vo S (A.num st m) (A.at st)=some old)∨(m=pm A.M st∧vo S (A.num st m) (A.at st)=some (xorL (partG g A.M st dm) old))):=fun m hm ha=>by
  rcases hb m hm ha with e | ⟨e,_⟩ | e
  ·exact .inl e
  ·rw [hl st m hst hm e] at ha;cases ha
  ·exact .inr e
 cases hop:g.op st with
 | none =>
  refine ⟨g,h,fun m hm ha _=>(hb2 m hm ha).elim id fun ⟨_,_,e,_⟩=>by (rw [hop] at e;cases e),rfl,rfl,rfl,fun _ _=>⟨rfl,rfl⟩,.inl ⟨rfl,hop⟩⟩
 | some q =>
  obtain ⟨dm,old⟩:=q
  obtain ⟨_,hdm,hne,hx⟩:=h.ok.op st dm old hop
  have hb3:∀m,m<A.M→Dead S (A.num st m)=false→vo S (A.num st m) (A.at st)=some (g.dat st m)∨(m=dm∧vo S (A.num st m) (A.at st)=some old)∨(m=pm A.M st∧vo S (A.num st m) (A.at st)=some (xorL (partG g A.M st dm) old)):=fun m hm ha=>by
   rcases hb2 m hm ha with e | ⟨dm2,old2,e1,e2⟩
   ·exact .inl e
   ·rw [hop] at e1
    injection e1 with e1
    injection e1 with h1 h2
    subst h1 h2
    exact .inr e2
  -- what stands there tells: the data,or,if that is lacking,the parity
  by_cases hsw:(Dead S (A.num st dm)=false∧vo S (A.num st dm) (A.at st)≠some (g.dat st dm))∨(Dead S (A.num st dm)=true∧vo S (A.num st (pm A.M st)) (A.at st)≠some (g.dat st (pm A.M st)))
  ·refine ⟨g.write A.M st dm old,h.swap hop,fun m hm ha hc=>?_,rfl,rfl,rfl,fun st' hs=>⟨(write_st hs old).1,(write_st hs old).2⟩,.inr ⟨dm,old,rfl,write_dm _ _ _ _,write_op _ _ _ _,fun m h1 h2=>write_other h1 h2 old⟩⟩
   rw [write_op] at hc
   by_cases c1:m=dm
   ·subst c1
    rw [write_dm]
    rcases hsw with ⟨_,e2⟩ | ⟨e1,_⟩
    ·rcases hb3 m hm ha with e | ⟨_,e⟩ | ⟨e,_⟩
     ·exact absurd e e2
     ·exact e
     ·exact absurd e hne
    ·rw [ha] at e1;cases e1
   ·by_cases c2:m=pm A.M st
    ·subst c2
     rw [write_pm hne]
     rcases hsw with ⟨e1,_⟩ | ⟨_,e2⟩
     ·rcases hc with hc | hc | hc
      ·exact absurd rfl hc
      ·cases hc
      ·have:=hc dm _ rfl
       rw [e1] at this;cases this
     ·rcases hb3 _ hm ha with e | ⟨e,_⟩ | ⟨_,e⟩
      ·exact absurd e e2
      ·exact absurd e.symm hne
      ·exact e
    ·rw [write_other c1 c2]
     rcases hb3 m hm ha with e | ⟨e,_⟩ | ⟨e,_⟩
     ·exact e
     ·exact absurd e c1
     ·exact absurd e c2
  ·refine ⟨g,h,fun m hm ha hc=>?_,rfl,rfl,rfl,fun _ _=>⟨rfl,rfl⟩,.inl ⟨rfl,hop⟩⟩
   rcases hb3 m hm ha with e | ⟨e,e2⟩ | ⟨e,e2⟩
   ·exact e
   ·subst e
    by_cases c1:vo S (A.num st m) (A.at st)=some (g.dat st m)
    ·exact c1
    ·exact absurd (.inl ⟨ha,c1⟩) hsw
   ·subst e
    rcases hc with hc | hc | hc
    ·exact absurd rfl hc
    ·rw [hop] at hc;cases hc
    ·by_cases c1:vo S (A.num st (pm A.M st)) (A.at st)=some (g.dat st (pm A.M st))
     ·exact c1
     ·exact absurd (.inr ⟨hc dm old hop,c1⟩) hsw
theorem Told.of_same {S:Sh.Sf} (h:Told A S g st) (h1:g'.dat st=g.dat st) (h2:g'.op st=g.op st):Told A S g' st:=by
 unfold Told
 rw [h1,h2]
 exact h
theorem Ci.tellAll (h:Ci A S o g) (hl:Ld A S g) (hon:S.off=false):∀j,j≤A.St→∃g',Ci A S o g'∧(∀st,st<j→Told A S g' st)∧g'.sl=g.sl∧Gr A.M g' g∧(∀st,j≤st→g'.dat st=g.dat st∧g'.op st=g.op st)
 | 0,_=>⟨g,h,fun _ e=>absurd e (Nat.not_lt_zero _),rfl,Gr.refl _ _,fun _ _=>⟨rfl,rfl⟩⟩
 | j+1,hj=>by
  obtain ⟨g1,h1,h2,h3,h4,h5⟩:=h.tellAll hl hon j (by omega)
  obtain ⟨g2,k1,k2,k3,k4,k5,k6,k7⟩:=h1.tell (fun st m a b e=>hl st m a b (by rw [h4.lack] at e;exact e)) hon (st:=j) (by omega)
  obtain ⟨w1,w2⟩:=h5 j (Nat.le_refl _)
  refine ⟨g2,k1,fun st hst=>?_,k4.trans h3,⟨k3.trans h4.lack,k5.trans h4.sure,fun st=>?_⟩,fun st hst=>?_⟩
  ·by_cases e:st=j
   ·rw [e];exact k2
   ·exact (h2 st (by omega)).of_same (k6 st e).1 (k6 st e).2
  ·by_cases e:st=j
   ·subst e
    rw [w1,w2] at k7
    exact k7
   ·rw [(k6 st e).1,(k6 st e).2]
    exact h4.each st
  ·rw [(k6 st (by omega)).1,(k6 st (by omega)).2]
   exact h5 st (by omega)
/-! ### what is no record is none -/
def Gh.strip (g:Gh) (S:Sh.Sf):Gh:={ g with sl:=fun d k=>if Dead S d=false∧vo S d (2+2*k)≠some Sh.noughts then g.sl d k else none }
theorem strip_sl {d k:Nat} {q:Nat × Nat} (h:(g.strip S).sl d k=some q):g.sl d k=some q∧Dead S d=false∧vo S d (2+2*k)≠some Sh.noughts:=by
 unfold Gh.strip at h
 simp only at h
 by_cases e:Dead S d=false∧vo S d (2+2*k)≠some Sh.noughts
 ·rw [if_pos e] at h
  exact ⟨h,e⟩
 ·rw [if_neg e] at h;cases h
theorem strip_yes {d k:Nat} (h1:Dead S d=false) (h2:vo S d (2+2*k)≠some Sh.noughts):(g.strip S).sl d k=g.sl d k:=if_pos ⟨h1,h2⟩
theorem recH_ne (g:Gh) (M st dm:Nat):recH g M st dm≠Sh.noughts:=headL_neT _
theorem Ci.strip (h:Ci A S o g) (hon:S.off=false) (hq:∀d,d<A.n→Dead S d=false→Jp2 S d (o d) (fun c=>c=vo S d)):Ci A S o (g.strip S):=by
 refine ⟨h.ar,⟨h.ok.sum,h.ok.sec,h.ok.op,fun d k st dm e=>h.ok.sl d k st dm (strip_sl e).1,h.ok.lack⟩,fun d hd ha=>(hq d hd ha).more fun c hc=>?_,h.dead,fun st dm old he h1 h2=>?_,h.len,h.fit,h.sec⟩
 ·rw [hc]
  have hp:=(h.disk d hd ha).now hon
  refine ⟨hp.blk,fun k hk=>?_,hp.part,hp.said⟩
  by_cases e:vo S d (2+2*k)=some Sh.noughts
  ·exact .inl ⟨if_neg (fun e2=>e2.2 e),e⟩
  ·rcases hp.slot k hk with e1 | ⟨s1,s2,e1,e2⟩
   ·exact absurd e1.2 e
   ·exact .inr ⟨s1,s2,(strip_yes ha e).trans e1,e2⟩
 ·obtain ⟨k,hk,e1,e2⟩:=h.rc st dm old he h1 h2
  refine ⟨k,hk,(strip_yes h2 ?_).trans e1,e2⟩
  have hp:=(h.disk _ (h.ar.num st _ (pm_lt h.ar st)) h2).now hon
  rcases hp.slot k hk with e3 | ⟨s1,s2,e3,e4⟩
  ·rw [e3.1] at e1;cases e1
  ·rcases e4 with ⟨e4,_⟩ | ⟨e4,_⟩
   ·rw [e2] at e4;cases e4
   ·rw [e4]
    intro e5
    injection e5 with e5
    exact recH_ne _ _ _ _ e5
end
theorem plM_lt {M st dm:Nat} (h3:3≤M) (hdm:dm<M) (hne:dm≠pm M st):plM M st dm<M-1∧L.memAt M (L.par M st) (plM M st dm)=dm:=by
 have hp:L.par M st<M:=L.par_lt _ _ (by omega)
 have h1:plM M st dm<M:=L.placeOf_lt _ _ _ (by omega)
 have h2:L.memAt M (L.par M st) (plM M st dm)=dm:=(L.mem_place M (L.par M st) dm _ hp hdm h1).2 rfl
 refine ⟨?_,h2⟩
 by_cases e:plM M st dm=M-1
 ·rw [e,L.memAt_last M _ hp] at h2
  exact absurd h2.symm hne
 ·omega
section
variable {A:Ar} {S S0 S':Sh.Sf} {o:Nat→Int} {g g':Gh} {D U U':Set0} {d k st dm:Nat} {y z:Int} {b x old h q:Sh.Bs} {c e:Stt} {l:List (Nat × Nat)}
theorem gotY_off (hoff:S.off≠false) (d k:Nat):gotY S d k=3:=by
 unfold gotY rdY
 rw [off_why hoff]
 rfl
theorem gotY_dead (hon:S.off=false) (hd:Dead S d=true) (k:Nat):gotY S d k=4:=by
 unfold gotY rdY
 rw [dead_why hd hon]
 rfl
theorem gotY_none (hon:S.off=false) (hd:Dead S d=false) (h:vo S d (2+2*k)=some Sh.noughts):gotY S d k=7:=by
 obtain ⟨h1,h2⟩:=seen_some hon (by rw [seen_alive hd hon];exact h)
 unfold gotY
 rw [h1,h2]
 rfl
theorem gotY_rec (hon:S.off=false) (hd:Dead S d=false) (hst:st<1024) {pl:Nat} (hpl:pl<15) (hq:Sh.Sec q) (h1:vo S d (2+2*k)=some (headL (numF st pl (Nums.sum 0 q)))) (h2:vo S d (3+2*k)=some q) :
  gotY S d k=0∧numAt (V S d (dataOf (2+2*k))) 0=st∧numAt (V S d (dataOf (2+2*k))) 1=pl∧V S d (dataOf (3+2*k))=q:=by
 obtain ⟨a1,a2⟩:=seen_some hon (by rw [seen_alive hd hon];exact h1)
 obtain ⟨b1,b2⟩:=seen_some hon (by rw [seen_alive hd hon];exact h2)
 obtain ⟨c1,c2,c3,_⟩:=okD_headT hst hpl q hq.2
 unfold gotY
 rw [a1,b1,a2,b2]
 refine ⟨?_,c2,c3,rfl⟩
 rw [if_neg (by simp),if_neg (headL_neT _),if_neg (by simp),if_pos c1]
structure Rpi (A:Ar) (S0:Sh.Sf) (g:Gh) (l:List (Nat × Nat)) (c:Stt) (U:Set0):Prop where
 ci:Ci A c.S c.o g
 on:c.S.off=false
 dead:∀d,Dead c.S d=Dead S0 d
 told:∀st,st<A.St→Told A c.S g st
 heads:∀d k,d<A.n→k<A.L→g.sl d k≠none→Dead c.S d=false∧vo c.S d (2+2*k)≠some Sh.noughts
 done:∀st dm old k,st<A.St→g.op st=some (dm,old)→Dead c.S (A.num st dm)=false→Dead c.S (A.num st (pm A.M st))=false→(A.num st (pm A.M st),k)∈l→g.sl (A.num st (pm A.M st)) k=some (st,dm)→vo c.S (A.num st (pm A.M st)) (A.at st)=some (g.dat st (pm A.M st))
 used:∀d k,(d,k)∈l→g.sl d k≠none→Maps.has U (slotKey d k)=true
 isU:IsMap U
theorem Told.same {S:Sh.Sf} (h:Told A S g st) (hs:Same S S'):Told A S' g st:=fun m hm ha hc=>by
 rw [vo_same hs]
 exact h m hm ((dead_same hs _).symm.trans ha) (hc.imp id (Or.imp id fun e dm old he=>(dead_same hs _).symm.trans (e dm old he)))
theorem Rpi.same (h:Rpi A S0 g l c U) (hs:Same c.S S'):Rpi A S0 g l ⟨S',c.o⟩ U :=
 ⟨h.ci.same hs,hs.off.trans h.on,fun d=>(dead_same hs d).trans (h.dead d),fun st hst=>(h.told st hst).same hs,fun d k hd hk e=>by
  show Dead S' d=false∧vo S' d _≠_
  rw [dead_same hs,vo_same hs];exact h.heads d k hd hk e,fun st dm old k hst he h1 h2 h3 h4=>by
  show vo S' _ _=_
  rw [vo_same hs];exact h.done st dm old k hst he ((dead_same hs _).symm.trans h1) ((dead_same hs _).symm.trans h2) h3 h4,h.used,h.isU⟩
theorem Rpi.add (h:Rpi A S0 g l c U) (hU:U'=U∨U'=DataW.put U (slotKey d k) one0) (hu:g.sl d k≠none→U'=DataW.put U (slotKey d k) one0)
  (hd:∀st dm old,st<A.St→g.op st=some (dm,old)→Dead c.S (A.num st dm)=false→Dead c.S (A.num st (pm A.M st))=false→A.num st (pm A.M st)=d→g.sl d k=some (st,dm)→vo c.S (A.num st (pm A.M st)) (A.at st)=some (g.dat st (pm A.M st))) :
  Rpi A S0 g (l++[(d,k)]) c U':=by
 refine ⟨h.ci,h.on,h.dead,h.told,h.heads,fun st dm old k' hst he h1 h2 h3 h4=>?_,fun d' k' hm hs=>?_,?_⟩
 ·rcases List.mem_append.1 h3 with h3 | h3
  ·exact h.done st dm old k' hst he h1 h2 h3 h4
  ·have e:=List.mem_singleton.1 h3
   injection e with e1 e2
   rw [e1,e2] at h4
   exact hd st dm old hst he h1 h2 e1 h4
 ·rcases List.mem_append.1 hm with hm | hm
  ·have:=h.used d' k' hm hs
   rcases hU with e | e
   ·rw [e];exact this
   ·rw [e];exact has_putS h.isU (.inl this)
  ·have e:=List.mem_singleton.1 hm
   injection e with e1 e2
   subst e1 e2
   rw [hu hs]
   exact has_putS h.isU (.inr ⟨rfl,rfl⟩)
 ·rcases hU with e | e
  ·rw [e];exact h.isU
  ·rw [e];exact h.isU.put _ _
theorem rp_off {s:Go.Proofs.YthhldceidmphfaaGreatDoor.S.Sup} {LL M St:Nat} (hoff:S.off≠false) (h:RpR LL s M St U S o d k y e U'):y=3∧Same S e.S∧e.o=o:=by
 have h3:=gotY_off hoff d k
 cases h with
 | got S1 y t hs h0 _=>rw [h3] at h0;exact absurd h0 (by decide)
 | bad S1 hs h0=>rw [h3] at h0;exact absurd h0 (by decide)
 | none S1 hs h0=>rw [h3] at h0;exact absurd h0 (by decide)
 | no S1 hs _ _ _ _=>rw [h3];exact ⟨rfl,hs,rfl⟩
theorem Rpi.step (h:Rpi A S0 g l c U) (hl:Ld A c.S g) (h16:A.M≤16) (hd:d<A.n) (hk:k<A.L) (hR:RpR A.L A.s A.M A.St U c.S c.o d k y e U') :
  (∀d,Dead e.S d=Dead S0 d)∧Ci A e.S e.o g∧((y=0∧(e.S.off=false→Rpi A S0 g (l++[(d,k)]) e U'))∨(y=3∧e.S.off≠false)):=by
 have hok:=h.ci.ok
 have har:=h.ci.ar
 have fin:∀{e:Stt} {U':Set0},Rpi A S0 g (l++[(d,k)]) e U'→(∀d,Dead e.S d=Dead S0 d)∧Ci A e.S e.o g∧(((0:Int)=0∧(e.S.off=false→Rpi A S0 g (l++[(d,k)]) e U'))∨((0:Int)=3∧e.S.off≠false)) :=
  fun r=>⟨r.dead,r.ci,.inl ⟨rfl,fun _=>r⟩⟩
 by_cases hda:Dead c.S d=true
 ·-- the disk is dead
  have h4:=gotY_dead h.on hda k
  cases hR with
  | got S1 y t hs h0 _=>rw [h4] at h0;exact absurd h0 (by decide)
  | bad S1 hs h0=>rw [h4] at h0;exact absurd h0 (by decide)
  | none S1 hs h0=>rw [h4] at h0;exact absurd h0 (by decide)
  | no S1 hs _ _ _ _ =>
   rw [h4]
   have hsl:g.sl d k=none:=by
    cases hsl:g.sl d k with
    | none=>rfl
    | some x=>rw [(h.heads d k hd hk (by rw [hsl];simp)).1] at hda;cases hda
   exact fin ((h.same hs).add (.inl rfl) (fun e=>absurd hsl e) fun st dm old _ _ _ _ _ e=>by rw [hsl] at e;cases e)
 ·have hda:Dead c.S d=false:=by simpa using hda
  have hp:=(h.ci.disk d hd hda).now h.on
  cases hsl:g.sl d k with
  | none =>
   have h7:gotY c.S d k=7:=gotY_none h.on hda (by
    rcases hp.slot k hk with e1 | ⟨_,_,e1,_⟩
    ·exact e1.2
    ·rw [hsl] at e1;cases e1)
   cases hR with
   | got S1 y t hs h0 _=>rw [h7] at h0;exact absurd h0 (by decide)
   | bad S1 hs h0=>rw [h7] at h0;exact absurd h0 (by decide)
   | none S1 hs h0=>exact fin ((h.same hs).add (.inl rfl) (fun e=>absurd hsl e) fun st dm old _ _ _ _ _ e=>by rw [hsl] at e;cases e)
   | no S1 hs _ _ _ h0=>exact absurd h7 h0
  | some q =>
   obtain ⟨st,dm⟩:=q
   obtain ⟨hst,hdm,hne,hnum,_⟩:=hok.sl d k st dm hsl
   obtain ⟨hpl,hmem⟩:=plM_lt (st:=st) har.m3 hdm hne
   have hpt:Sh.Sec (partG g A.M st dm):=Sec.part hok har hst hdm
   have hrec:vo c.S d (2+2*k)=some (recH g A.M st dm)∧vo c.S d (3+2*k)=some (partG g A.M st dm):=by
    rcases hp.slot k hk with e1 | ⟨s1,s2,e1,e2⟩
    ·rw [e1.1] at hsl;cases hsl
    ·rw [hsl] at e1
     injection e1 with e1
     injection e1 with e3 e4
     subst e3 e4
     rcases e2 with ⟨_,e2⟩ | e2
     ·exact absurd e2 (h.heads d k hd hk (by rw [hsl];simp)).2
     ·exact e2
   have hs2:=har.s2
   obtain ⟨g0,g1,g2,g3⟩:=gotY_rec h.on hda (Nat.lt_of_lt_of_le hst hs2) (by omega) hpt hrec.1 hrec.2
   -- what is told of the stripe's data
   have data:Dead c.S (A.num st dm)=false→vo c.S (A.num st dm) (A.at st)=some (g.dat st dm):=fun ha=>h.told st hst dm hdm ha (.inl hne)
   cases hR with
   | bad S1 hs h0=>rw [g0] at h0;exact absurd h0 (by decide)
   | none S1 hs h0=>rw [g0] at h0;exact absurd h0 (by decide)
   | no S1 hs h0 _ _ _=>exact absurd g0 h0
   | got S1 y t hs _ hr =>
    rw [g1,g2,g3] at hr
    have i1:=h.same hs
    have bl:blkOn A.s A.M st (plM A.M st dm)=A.num st dm:=by
     unfold blkOn Ar.num
     rw [hmem]
    have mk:∀{e:Stt},Rpi A S0 g l e U→(∀old,g.op st=some (dm,old)→Dead e.S (A.num st dm)=false→Dead e.S d=false→vo e.S d (A.at st)=some (g.dat st (pm A.M st)))→Rpi A S0 g (l++[(d,k)]) e (DataW.put U (slotKey d k) one0):=fun r hh =>
     r.add (.inr rfl) (fun _=>rfl) fun st' dm' old' _ he h1 h2 h3 h4=>by
      rw [hsl] at h4
      injection h4 with h4
      injection h4 with e3 e4
      subst e3 e4
      rw [h3] at h2 ⊢
      exact hh old' he h1 h2
    cases hr with
    | beyond h0=>omega
    | other _ _ h0=>exact absurd hnum h0
    | lack _ _ _ h0 =>
     rw [bl] at h0 ⊢
     have hrd:=rdY_seen (S:=S1) i1.on (A.num st dm) (2+2*A.L+st)
     have hde:Dead S1 (A.num st dm)=true:=by
      cases hx:Dead S1 (A.num st dm) with
      | true=>rfl
      | false =>
       have:=data ((dead_same hs _).symm.trans hx)
       rw [← vo_same hs,← seen_alive hx i1.on] at this
       exact absurd (seen_some i1.on this).1 h0
     rcases hrd with ⟨e0,_⟩ | ⟨e0,_⟩
     ·exact absurd e0 h0
     ·rw [if_pos e0]
      have hs3:Same S1 (Looked S1 (A.num st dm)):=(Same.refl S1).looked _
      exact fin (mk (i1.same hs3) fun old _ h1 _=>by
       have h1:Dead (Looked S1 (A.num st dm)) (A.num st dm)=false:=h1
       rw [dead_same hs3,hde] at h1;cases h1)
    | done y t _ _ _ h0 hm =>
     rw [bl] at h0 hm
     have hs3:Same S1 (Looked S1 (A.num st dm)):=(Same.refl S1).looked _
     have hal:Dead S1 (A.num st dm)=false:=by
      cases hx:Dead S1 (A.num st dm) with
      | false=>rfl
      | true =>
       unfold rdY at h0
       rw [dead_why hx i1.on,if_neg (by decide)] at h0
       exact absurd h0 (by decide)
     have hv:V S1 (A.num st dm) (dataOf (2+2*A.L+st))=g.dat st dm:=by
      have:=data ((dead_same hs _).symm.trans hal)
      rw [← vo_same hs,← seen_alive hal i1.on] at this
      exact (seen_some i1.on this).2
     rw [hv,part_old hok har hst hdm] at hm
     have i2:=i1.same hs3
     generalize Looked S1 (A.num st dm)=S2 at *
     have hda2:Dead S2 d=false:=(dead_same hs3 d).trans ((dead_same hs d).trans hda)
     have hs4:Same S2 (Looked S2 d):=(Same.refl S2).looked _
     have i3:=i2.same hs4
     rcases hm with ⟨e1,e2,rfl,rfl⟩ | ⟨_,z,S',hD,rfl⟩
     ·refine fin (mk i3 fun _ _ _ _=>?_)
      have hq:=rdY_seen (S:=S2) i2.on d (2+2*A.L+st)
      rcases hq with ⟨_,e3⟩ | ⟨e3,_⟩
      ·rw [seen_alive hda2 i2.on,e2] at e3
       show vo (Looked S2 d) d _=_
       rw [vo_same hs4]
       exact e3
      ·rw [e1] at e3;exact absurd e3 (by decide)
     ·generalize Looked S2 d=S3 at *
      have hda3:Dead S3 d=false:=(dead_same hs4 d).trans hda2
      have hl3:Ld A S3 g:=hl.dead fun d=>(dead_same hs4 d).trans ((dead_same hs3 d).trans (dead_same hs d))
      subst hnum
      obtain ⟨q1,q2,q3,q4,q5,q6,q7⟩:=i3.ci.put (m:=pm A.M st) hl3 hst (pm_lt har st) hda3 hD
      have hdd:∀d,Dead S' d=Dead S0 d:=fun d=>(q6 d).trans (i3.dead d)
      refine ⟨hdd,q1,?_⟩
      rcases q4 with e0 | e0
      ·subst e0
       refine .inl ⟨rfl,fun hon=>?_⟩
       have hv2:=q2 rfl
       have hat:vo S' (A.num st (pm A.M st)) (A.at st)=some (g.dat st (pm A.M st)):=by
        rw [hv2];exact if_pos rfl
       -- all else stays
       have keep:∀d' j,¬(d'=A.num st (pm A.M st)∧j=A.at st)→vo S' d' j=vo S3 d' j:=fun d' j hn=>by
        by_cases c1:d'=A.num st (pm A.M st)
        ·rw [c1,hv2];exact if_neg fun e=>hn ⟨c1,e⟩
        ·rw [q7 d' c1]
       have sput:∀st' m,st'<A.St→m<A.M→vo S3 (A.num st' m) (A.at st')=some (g.dat st' m)→vo S' (A.num st' m) (A.at st')=some (g.dat st' m):=fun st' m hst' hm e=>by
        by_cases c1:st'=st
        ·subst c1
         by_cases c2:m=pm A.M st'
         ·rw [c2];exact hat
         ·rw [keep _ _ fun e2=>c2 (har.inj st' m _ hm (pm_lt har st') e2.1)];exact e
        ·rw [keep _ _ fun e2=>c1 (by have:=e2.2;unfold Ar.at at this;omega)];exact e
       have i4:Rpi A S0 g l ⟨S',put1 c.o (A.num st (pm A.M st)) z⟩ U:=by
        refine ⟨q1,hon,hdd,fun st' hst' m hm ha hc=>?_,fun d' k' hd' hk' e=>?_,fun st' dm' old' k' hst' he h1 h2 h3 h4=>?_,i3.used,i3.isU⟩
        ·refine sput st' m hst' hm (i3.told st' hst' m hm ((q6 _).symm.trans ha) (hc.imp id (Or.imp id fun e dm old he=>(q6 _).symm.trans (e dm old he))))
        ·obtain ⟨a1,a2⟩:=i3.heads d' k' hd' hk' e
         refine ⟨(q6 d').trans a1,?_⟩
         show vo S' d' _≠_
         rw [keep _ _ fun e2=>by have:=e2.2;unfold Ar.at at this;omega]
         exact a2
        ·exact sput st' _ hst' (pm_lt har st') (i3.done st' dm' old' k' hst' he ((q6 _).symm.trans h1) ((q6 _).symm.trans h2) h3 h4)
       exact mk i4 fun _ _ _ _=>hat
      ·exact .inr ⟨e0,fun e1=>by rw [(q3 e1).1] at e0;exact absurd e0 (by decide)⟩
theorem Rpi.steps {a b:Stt} {ds:List (Nat × Nat)} (hR:RpSteps A.L A.s A.M A.St ds a U b U') (h:Rpi A S0 g [] a U) (hl:Ld A S0 g) (h16:A.M≤16) (hx:∀x∈ds,x.1<A.n∧x.2<A.L) :
  (∀d,Dead b.S d=Dead S0 d)∧Ci A b.S b.o g∧(b.S.off=false→Rpi A S0 g ds b U'):=by
 induction hR with
 | nil=>exact ⟨h.dead,h.ci,fun _=>h⟩
 | @snoc _ _ _ _ b1 _ _ _ _ h1 h2 ih =>
  obtain ⟨i1,i2,i3⟩:=ih h (fun x e=>hx x (List.mem_append_left _ e))
  obtain ⟨x1,x2⟩:=hx _ (List.mem_append_right _ (List.mem_singleton.2 rfl))
  by_cases hon:b1.S.off=false
  ·obtain ⟨r1,r2,r3⟩:=(i3 hon).step (hl.dead i1) h16 x1 x2 h2
   refine ⟨r1,r2,fun e=>?_⟩
   rcases r3 with ⟨_,r3⟩ | ⟨r3,_⟩
   ·exact r3 e
   ·exact absurd r3 (by decide)
  ·exact absurd (rp_off hon h2).1 (by decide)
theorem Rpi.fi {b:Stt} (h:Rpi A S0 g (slotsTo A.L A.n 0) b U):Fi A b.S b.o g U:=by
 have har:=h.ci.ar
 refine Fi.of h.ci h.on (fun st m hst hm ha=>?_) (fun d k hd hk e=>h.used d k (mem_slotsTo hd hk) e)
 by_cases c1:m=pm A.M st
 ·cases hop:g.op st with
  | none=>exact h.told st hst m hm ha (.inr (.inl hop))
  | some q =>
   obtain ⟨dm,old⟩:=q
   cases hd:Dead b.S (A.num st dm) with
   | true=>exact h.told st hst m hm ha (.inr (.inr fun dm' old' e=>by
     rw [hop] at e
     injection e with e
     injection e with e1 e2
     rw [← e1];exact hd))
   | false =>
    subst c1
    obtain ⟨k,hk,e1,_⟩:=h.ci.rc st dm old hop hd ha
    exact h.done st dm old k hst hop hd ha (mem_slotsTo (har.num st _ hm) hk) e1
 ·exact h.told st hst m hm ha (.inl c1)
theorem Rpi.all {a b:Stt} (h:Rpi A S0 g [] a U) (hl:Ld A S0 g) (h16:A.M≤16) (hR:RplR A.n A.L A.s A.M A.St a U y b U') :
  (∀d,Dead b.S d=Dead S0 d)∧Ci A b.S b.o g∧((y=0∧(b.S.off=false→Fi A b.S b.o g U'))∨(y=3∧b.S.off≠false)):=by
 rcases hR with ⟨rfl,hs⟩ | ⟨hy,j,k,c,U1,hj,hk,hs,hr⟩
 ·obtain ⟨i1,i2,i3⟩:=h.steps hs hl h16 fun x e=>slotsTo_all e
  exact ⟨i1,i2,.inl ⟨rfl,fun hon=>(i3 hon).fi⟩⟩
 ·obtain ⟨i1,i2,i3⟩:=h.steps hs hl h16 fun x e=>slotsTo_lt hj (Nat.le_of_lt hk) e
  by_cases hon:c.S.off=false
  ·obtain ⟨r1,r2,r3⟩:=(i3 hon).step (hl.dead i1) h16 hj hk hr
   rcases r3 with ⟨r3,_⟩ | r3
   ·exact absurd r3 hy
   ·exact ⟨r1,r2,.inr r3⟩
  ·obtain ⟨r1,r2,r3⟩:=rp_off hon hr
   refine ⟨fun d=>(dead_same r2 d).trans (i1 d),?_,.inr ⟨r1,fun e=>hon (r2.off.symm.trans e)⟩⟩
   rw [r3]
   exact i2.same r2
end
structure Rest (A:Ar) (S:Sh.Sf) (g:Gh):Prop where
 ci:Ci A S (fun _=>-1) g
 quiet:∀d,d<A.n→Dead S d=false→Jp2 S d (-1) (fun c=>c=vo S d)
section
variable {A:Ar} {S S0 S':Sh.Sf} {o:Nat→Int} {g g':Gh} {D U U':Set0} {d k st dm:Nat} {y z:Int} {b x old h q:Sh.Bs} {c e:Stt} {l:List (Nat × Nat)}
theorem Ci.crash (h:Ci A S o g) (ks:List (List Int)):Rest A (S.crash ks) g∧(∀d,d<A.n→Dead (S.crash ks) d=Dead S d)∧(S.crash ks).off=false∧(S.crash ks).left=0:=by
 have hd:∀d,d<A.n→Dead (S.crash ks) d=Dead S d:=fun d hd=>dead_crash ks (by rw [h.len];exact hd)
 have hsec:=h.sec.crash ks
 have hlen:(S.crash ks).disks.length=A.n:=(Sh.crash_length S ks).trans h.len
 have hse:(S.crash ks).sectors=S.sectors:=rfl
 have hj:=fun d (h1:d<A.n) (h2:Dead (S.crash ks) d=false)=>(h.disk d h1 ((hd d h1).symm.trans h2)).crash ks (fun n hn=>(hsec.V (by rw [hlen];exact h1) (by rw [hse];exact hn)).1) (-1)
 refine ⟨⟨⟨h.ar,h.ok,fun d h1 h2=>?_,fun st m h1 h2 h3=>h.dead st m h1 h2 ((hd _ (h.ar.num st m h2)).symm.trans h3),fun st dm old he h2 h3=>?_,hlen,?_,hsec⟩,fun d h1 h2=>(hj d h1 h2).1⟩,hd,rfl,rfl⟩
 ·obtain ⟨j1,j2,_⟩:=hj d h1 h2
  exact j1.more fun c hc=>by rw [hc];exact j2
 ·obtain ⟨_,hdm,_⟩:=h.ok.op st dm old he
  exact h.rc st dm old he ((hd _ (h.ar.num st dm hdm)).symm.trans h2) ((hd _ (h.ar.num st _ (pm_lt h.ar st))).symm.trans h3)
 ·rw [hse];exact h.fit
theorem Rest.stop (h:Rest A S g) (n:Int):Rest A (S.doStop n) g :=
 ⟨h.ci.stop n,fun d hd ha=>by
  rw [vo_stop]
  exact (h.quiet d hd ((dead_stop S n d).symm.trans ha)).stop n⟩
theorem Rest.same (h:Rest A S g) (hs:Same S S'):Rest A S' g :=
 ⟨h.ci.same hs,fun d hd ha=>by
  rw [vo_same hs]
  exact (h.quiet d hd ((dead_same hs d).symm.trans ha)).same hs⟩
/-! ### what the disks say -/
def saidOf (s:Go.Proofs.YthhldceidmphfaaGreatDoor.S.Sup) (d:Nat):Go.Proofs.YthhldceidmphfaaGreatDoor.S.Sup:={ s with disk:=(d:Int) }
structure Said (A:Ar):Prop where
 q:∀d c0 c1,A.Q d c0 c1→c0=some Sh.noughts∧c1=some (Go.Proofs.YthhldceidmphfaaGreatDoor.S.encL (saidOf A.s d).nums)
 gen:A.s.gen=1
 right:∀d,d<A.n→(saidOf A.s d).right=true
 mem:A.s.mem=(A.M:Int)
 str:A.s.str=(A.St:Int)
 logs:A.s.logs=(A.L:Int)
 fit:Fit A.n A.s
 m16:A.M≤16
 st1:1≤A.St
theorem okD_enc {s:Go.Proofs.YthhldceidmphfaaGreatDoor.S.Sup} (hr:s.right=true):Go.Proofs.YthhldceidmphfaaGreatDoor.S.okD (Go.Proofs.YthhldceidmphfaaGreatDoor.S.encL s.nums)=true:=by
 unfold Go.Proofs.YthhldceidmphfaaGreatDoor.S.okD
 rw [Go.Proofs.YthhldceidmphfaaGreatDoor.S.supOf_enc hr,hr]
 simp
theorem okD_noughts:Go.Proofs.YthhldceidmphfaaGreatDoor.S.okD Sh.noughts=false:=by decide
theorem Rest.say (h:Rest A S g) (hs:Said A) (hon:S.off=false) (hd:d<A.n) :
  (Dead S d=true→∀b,sayO S d b=none)∧(Dead S d=false→sayO S d 0=none∧sayO S d 1=some (saidOf A.s d)):=by
 refine ⟨fun hda b=>sayO_no fun e=>?_,fun hda=>?_⟩
 ·unfold rdY at e
  rw [dead_why hda hon,if_neg (by decide)] at e
  exact absurd e (by decide)
 ·have hp:=(h.ci.disk d hd hda).now hon
  obtain ⟨q0,q1⟩:=hs.q d _ _ hp.said
  obtain ⟨a1,a2⟩:=seen_some hon (by rw [seen_alive hda hon];exact q0)
  obtain ⟨b1,b2⟩:=seen_some hon (by rw [seen_alive hda hon];exact q1)
  refine ⟨sayO_bad (by rw [a2];exact okD_noughts),?_⟩
  rw [sayO_yes b1 (by rw [b2];exact okD_enc (hs.right d hd)),b2,Go.Proofs.YthhldceidmphfaaGreatDoor.S.supOf_enc (hs.right d hd)]
theorem Rest.says (h:Rest A S g) (hs:Said A) (hon:S.off=false) (hd:d<A.n) {b:Nat} {x:Go.Proofs.YthhldceidmphfaaGreatDoor.S.Sup} (hb:b<2) (hx:sayO S d b=some x):Dead S d=false∧b=1∧x=saidOf A.s d:=by
 obtain ⟨h1,h2⟩:=h.say hs hon hd
 cases hda:Dead S d with
 | true=>rw [h1 hda] at hx;cases hx
 | false =>
  obtain ⟨e0,e1⟩:=h2 hda
  obtain rfl | rfl:b=0∨b=1:=by omega
  ·rw [e0] at hx;cases hx
  ·rw [e1] at hx
   injection hx with hx
   exact ⟨rfl,rfl,hx.symm⟩
theorem Rest.sayIs (h:Rest A S g) (hs:Said A) (hon:S.off=false) (hd:d<A.n) {b:Nat} {x:Go.Proofs.YthhldceidmphfaaGreatDoor.S.Sup} (hb:b<2) (hx:sayO S d b=some x):SayIs A.n (blk S.sectors) d b x:=by
 obtain ⟨_,rfl,rfl⟩:=h.says hs hon hd hb hx
 have hf:=h.ci.fit
 refine ⟨hs.right d hd,rfl,?_,hs.fit,?_⟩
 ·show A.s.gen%2=_
  rw [hs.gen];rfl
 ·show 2+2*A.s.logs.toNat+A.s.str.toNat≤_
  rw [hs.logs,hs.str]
  exact hf
theorem Ci.alive (h:Ci A S o g) (h1:1≤A.St):∃d,d<A.n∧Dead S d=false:=by
 have h3:=h.ar.m3
 cases h0:Dead S (A.num 0 0) with
 | false=>exact ⟨_,h.ar.num 0 0 (by omega),h0⟩
 | true =>
  cases h2:Dead S (A.num 0 1) with
  | false=>exact ⟨_,h.ar.num 0 1 (by omega),h2⟩
  | true=>exact absurd (h.ok.lack 0 0 1 (by omega) (by omega) (by omega) (h.dead 0 0 (by omega) (by omega) h0) (h.dead 0 1 (by omega) (by omega) h2)) (by decide)
theorem Rest.newest (h:Rest A S g) (hs:Said A) (hon:S.off=false):sayTo S A.n 0≠[]∧∃d,d<A.n∧newestOf (sayTo S A.n 0)=saidOf A.s d:=by
 obtain ⟨d,hd,ha⟩:=h.ci.alive hs.st1
 have hne:sayTo S A.n 0≠[]:=by
  intro e
  have:saidOf A.s d∈sayTo S A.n 0:=by
   unfold sayTo
   exact List.mem_filterMap.2 ⟨(d,1),mem_slotsTo hd (by decide),((h.say hs hon hd).2 ha).2⟩
  rw [e] at this
  cases this
 obtain ⟨d',b,h1,h2,h3⟩:=mem_sayTo (mem_newest hne)
 exact ⟨hne,d',h1,(h.says hs hon h1 h2 h3).2.2⟩
theorem alike_said (s:Go.Proofs.YthhldceidmphfaaGreatDoor.S.Sup) (d e:Nat):alikeB (saidOf s d) (saidOf s e)=true:=by
 unfold alikeB saidOf
 simp
theorem Rest.agreeStep (h:Rest A c.S g) (hs:Said A) (hon:c.S.off=false) (hd:d<A.n) {d0:Nat} (hR:AgStep (saidOf A.s d0) 1 d c y e):y=0∧Same c.S e.S∧e.o=c.o:=by
 cases hR with
 | says S1 x hss _ _=>exact ⟨rfl,hss,rfl⟩
 | other S1 z o' S' hss hno hu =>
  cases hda:Dead c.S d with
  | false =>
   have:=hno _ ((h.say hs hon hd).2 hda).2
   rw [alike_said] at this;cases this
  | true =>
   have hw:Sh.why S1 d=4:=dead_why ((dead_same hss d).trans hda) (hss.off.trans hon)
   obtain ⟨y1,o1,S2,hD,hy⟩:=hu
   rcases hD with ⟨_,e1,e2,e3⟩ | ⟨e1,_⟩
   ·rw [hw] at e1
    rcases hy with ⟨_,e4,e5,e6⟩ | ⟨e4,_⟩
    ·rw [e4,e1,e5,e2,e6,e3]
     exact ⟨rfl,hss,put1_same _ _⟩
    ·rw [e1] at e4;exact absurd e4 (by decide)
   ·rw [hw] at e1;exact absurd e1 (by decide)
theorem Rest.agreeSteps {a b:Stt} {d0 j:Nat} (hR:AgSteps (saidOf A.s d0) 1 j a b) (h:Rest A a.S g) (hs:Said A) (hon:a.S.off=false) (hj:j≤A.n):Same a.S b.S∧b.o=a.o:=by
 induction hR with
 | nil=>exact ⟨Same.refl _,rfl⟩
 | snoc h1 h2 ih =>
  obtain ⟨i1,i2⟩:=ih h hon (by omega)
  obtain ⟨_,k1,k2⟩:=(h.same i1).agreeStep hs (i1.off.trans hon) (by omega) h2
  exact ⟨i1.trans k1,k2.trans i2⟩
theorem Rest.agree {a b:Stt} {d0:Nat} (h:Rest A a.S g) (hs:Said A) (hon:a.S.off=false) (hR:AgR A.n (saidOf A.s d0) 1 a y b):y=0∧Same a.S b.S∧b.o=a.o:=by
 rcases hR with ⟨rfl,hR⟩ | ⟨hy,j,c,hj,h1,h2⟩
 ·exact ⟨rfl,h.agreeSteps hR hs hon (Nat.le_refl _)⟩
 ·obtain ⟨i1,i2⟩:=h.agreeSteps h1 hs hon (Nat.le_of_lt hj)
  exact absurd ((h.same i1).agreeStep hs (i1.off.trans hon) hj h2).1 hy
end
end Go.Proofs.YthhldceidmphfaaGreatDoor.U
