/-
  What the statement's proof rests on, part 38.
  Conditions: each theorem's own.
-/
import Derived.Test.YtepoepmndckmaaaGreatDoorY36
import Derived.Test.YtepoepmndckmaaaGreatDoorYtk
open Go.Lib (hid)
open Go.Proofs.YtepoepmndckmaaaGreatDoor.S renaming Sup → SuP
namespace Go.Proofs.YtepoepmndckmaaaGreatDoor.U
open Go.RowKit Go.Maps
def gotY (S:Sh.Sf) (d k:Nat):Int :=
 if rdY S d (2+2*k)≠0 then rdY S d (2+2*k) else if V S d (dataOf (2+2*k))=Sh.noughts then 7 else if rdY S d (3+2*k)≠0 then rdY S d (3+2*k)
 else if okD (V S d (dataOf (2+2*k))) (V S d (dataOf (3+2*k))) 128=true then 0 else 8
def GotO (y:Int) (h l:Sh.Bs) (w:World) (e:Ending) (w':World):Prop :=
 (y≠0/\e=.returned (.tuple #[.agg #[.int .i64 0,.int .i64 0,.slice none 0 0],.int .i64 y])) \/
 (y=0/\∃A c,e=.returned (.tuple #[.agg #[.int .i64 (numAt h 0:Nat),.int .i64 (numAt h 1:Nat),.slice A 128 c],.int .i64 0])/\w'.ownsRow w.heap.size 5 1 (.slice A 128 c) 128 (bts l))
theorem got_1 {y1 y2:Int} {h l:Sh.Bs} (h1:y1≠0):(if y1≠0 then y1 else if h=Sh.noughts then 7 else if y2≠0 then y2 else if okD h l 128=true then 0 else 8)=y1:=if_pos h1
theorem got_2 {y2:Int} {h l:Sh.Bs} (h2:h=Sh.noughts):(if (0:Int)≠0 then (0:Int) else if h=Sh.noughts then 7 else if y2≠0 then y2 else if okD h l 128=true then 0 else 8)=7:=by
 rw [if_neg (by simp),if_pos h2]
theorem got_3 {y2:Int} {h l:Sh.Bs} (h2:h≠Sh.noughts) (h3:y2≠0):(if (0:Int)≠0 then (0:Int) else if h=Sh.noughts then 7 else if y2≠0 then y2 else if okD h l 128=true then 0 else 8)=y2:=by
 rw [if_neg (by simp),if_neg h2,if_pos h3]
theorem got_4 {h l:Sh.Bs} {b:Bool} (h2:h≠Sh.noughts) (hb:okD h l 128=b):(if (0:Int)≠0 then (0:Int) else if h=Sh.noughts then 7 else if (0:Int)≠0 then (0:Int) else if okD h l 128=true then 0 else 8)=if b=true then 0 else 8:=by
 rw [if_neg (by simp),if_neg h2,if_neg (by simp),hb]
section
variable {B:Nat} {W w w':World} {g a p d n:Nat} {o:Int} {S S':Sh.Sf} {F:Nat->Prop}
set_option maxRecDepth 20000 in
set_option maxHeartbeats 4000000 in
theorem get_any2 (h:Lg B W w g a p d o S F n) (hT:Tabs W) (hTB:max 0 1+1<=B) (hFl:Flds W) (hFB:4+1<=B) (hd:d<S.disks.length) (k:Nat) (hk:k<n) (hn:n<=8) (hb:2+2*n<=blk S.sectors) :
  Calls Tryz.prog 129 #[.pointer (some ⟨g,0,none⟩),.int .i64 k] w fun e w'=>GotO (gotY S d k) (V S d (dataOf (2+2*k))) (V S d (dataOf (3+2*k))) w e w'/\∃S',Same S S'/\Lg B W w' g a p d o S' F n/\Sh.Only F w w':=by
 have hb0:=(show Below w.heap.size w (w.alloc (.cells #[.int .i64 0,.int .i64 0,.slice none 0 0] 190)) from (Below.refl _ _).alloc (Nat.le_refl _) _)
 have hR:=hid (refusal_yes (h.log.same (hb0.block g h.log.lt)) k hk)
 have q0:=heap_alloc_new w (.cells #[.int .i64 0,.int .i64 0,.slice none 0 0] 190)
 have hz0:w.heap.size<(w.alloc (.cells #[.int .i64 0,.int .i64 0,.slice none 0 0] 190)).heap.size:=by simp
 have HNB:=hid (show ¬With F a w.heap.size from fun e=>Nat.lt_irrefl _ (h.lt _ e))
 have HNG:=hid h.apart
 have hk8:k<=1000:=by omega
 have HLT:=hid h.lt
 have hv1:=V_sec h.dv.on.shelf hd (n:=dataOf (2+2*k)) (sum_of_lt (by omega)).1
 have hv2:=V_sec h.dv.on.shelf hd (n:=dataOf (3+2*k)) (sum_of_lt (by omega)).1
 have HD:=hid ((h.grown hb0).grown (w':=(w.alloc (.cells #[.int .i64 0,.int .i64 0,.slice none 0 0] 190)).drew) ⟨rfl,rfl,rfl,Nat.le_refl _,fun _ _=>rfl⟩)
 have HB0:=hid hb0
 have HRD:=hid (dread HD.out.dv hT hTB (2+2*k) (by omega) hd)
 have HG2:=hid (show rdY (Looked S d) d (3+2*k)=rdY S d (3+2*k) from rdY_looked _ _ _ _)
 have HV2:=hid (show V (Looked S d) d (dataOf (3+2*k))=V S d (dataOf (3+2*k)) from looked_V _ _ _ _)
 have hd1:d<(Looked S d).disks.length:=by rw [looked_disks];exact hd
 have HBK:=hid (show 3+2*k<blk (Looked S d).sectors by rw [looked_sectors];omega)
 have RS1:=hid ((Same.refl S).looked d)
 have RS2:=hid ((Same.refl (Looked S d)).looked d)
 have HTw:=hid (fun w' (hb:Below B W w')=>hT.below hTB hb)
 have HFw:=hid (fun w' (hb:Below B W w')=>hFl.below hFB hb)
 have HSZ:=hid h.dv.on.size
 have HLOG:=hid h.log
 have HAP:=hid h.apart
 have HLOW:=hid h.low
 unfold gotY
 generalize hY:(if rdY S d (2+2*k)≠0 then rdY S d (2+2*k) else if V S d (dataOf (2+2*k))=Sh.noughts then 7 else if rdY S d (3+2*k)≠0 then rdY S d (3+2*k) else if okD (V S d (dataOf (2+2*k))) (V S d (dataOf (3+2*k))) 128=true then (0:Int) else 8)=Y
 have HYY:=hid hY
 clear hY
 generalize rdY S d (2+2*k)=y1 at *
 generalize rdY S d (3+2*k)=y2 at *
 generalize V S d (dataOf (2+2*k))=hL at *
 generalize V S d (dataOf (3+2*k))=l at *
 clear hb0 h hb
 go_enter Tryz.func129,Tryz.ntmps129
 go_wp2_with fail
 generalize w.alloc (.cells #[.int .i64 0,.int .i64 0,.slice none 0 0] 190)=W0 at *
 refine hR.out.mono ?_
 rintro e w' ⟨rfl,rfl⟩
 have Q0:=hid q0
 have HZ1:=hid (show w.heap.size<W0.drew.heap.size from hz0)
 clear q0 hz0 hR
 have j0:=fun (W':World) (h:LogIs W' g a n/\W'.heap[w.heap.size]?=some (.cells #[.int .i64 0,.int .i64 0,.slice none 0 0] 190 (0,0)))=>h.1.c0
 go_wp2_with fail
 refine wp_region_held_drew (S:=fun (W':World)=>LogIs W' g a n/\W'.heap[w.heap.size]?=some (.cells #[.int .i64 0,.int .i64 0,.slice none 0 0] 190 (0,0))) (by kernel_rfl) ⟨HD.out.log,Q0.out⟩ (fun hHeld=>?_)
 refine tk 0 18 ?_
 refine tk 1 19 ?_
 refine tk 2 20 ?_
 refine tk 3 21 ?_
 refine tk 4 22 ?_
 refine r1 5 (some 23) fun K hK=>?_
 go_simp
 refine (headAt_any k hk8 _).mono ?_
 rintro e w3 ⟨rfl,rfl⟩
 refine hK.out _ _ (hHeld) (fun hHeld=>?_)
 clear hK K
 try simp only [Act.put,List.setIfInBounds_toArray,List.set_cons_zero,List.set_cons_succ]
 refine r1 6 (some 24) fun K hK=>?_
 go_simp
 refine (HRD.out).mono ?_
 rintro e w3 ⟨⟨A3,n3,c3,rfl,y3⟩,D3,O3⟩
 refine hK.out _ _ (⟨hHeld.1.same (O3.block g hHeld.1.lt (fun e=>HNG.out (.inl e))),(O3.block w.heap.size HZ1.out (fun e=>HNB.out (.inl e))).trans hHeld.2⟩) (fun hHeld=>?_)
 clear hK K
 try simp only [Act.put,List.setIfInBounds_toArray,List.set_cons_zero,List.set_cons_succ]
 refine tk 7 17 ?_
 refine tk 8 25 ?_
 refine tk 9 26 ?_
 refine tk 10 7 ?_
 refine tk 11 8 ?_
 refine wpAnyH_done (by kernel_rfl) ?_ _
 by_cases hy1:y1=0
 rotate_left
 ·have L3:=hid (show Lg B W w3 g a p d o (Looked S d) F n from ⟨D3,hHeld.1,HAP.out,HLOW.out⟩)
  have q3:=hHeld.2
  have O03:=hid ((only_below F HB0.out).trans (show Sh.Only F W0 w3 from ⟨O3.os,O3.tape,O3.output,O3.size,O3.block⟩) (fun b hb=>.inl hb))
  have hgr:g≠w.heap.size:=Nat.ne_of_lt HLOG.out.lt
  have hqn:(y1 == 0)=false:=by simpa using hy1
  obtain ⟨k0,k1,k2,f⟩:=cells3_of q3
  have f0:=f 0
  have f1:=f 1
  have f2:=f 2
  have s0:=store3_0 q3 (.int .i64 0) (by rfl)
  have O4:=put3_only w3 w.heap.size (.int .i64 0) (.int .i64 0) (.slice none 0 0)
  have HLV:=hid (load_rec (put3_row q3 (.int .i64 0) (.int .i64 0) (.slice none 0 0)))
  have L4:=hid (L3.out.over O4 HNB.out HSZ.out hgr)
  have O5:=hid (O03.out.trans O4 (fun b hb=>.inr (Nat.le_of_eq hb.symm)))
  have HY1:=hid hy1
  clear D3 O3 y3 hHeld j0 HRD HD Q0 HB0 q3 f O4 hy1 hgr
  go_wp2_with fail
  refine bodyPost_ret (results_cell2 (g:=w.heap.size) Tryz.results129 rfl HLV.out rfl) rfl ?_
  have e:=HYY.out
  rw [got_1 HY1.out] at e
  subst e
  exact ⟨.inl ⟨HY1.out,rfl⟩,_,RS1.out,L4.out,O5.out⟩
 subst hy1
 have hy3:n3=128/\Sh.Bytes W0.drew w3 A3 hL:=by
  rcases y3 with ⟨_,h1,h2⟩ | ⟨h1,_⟩
  ·exact ⟨h1,h2⟩
  ·exact absurd rfl h1
 clear y3
 obtain ⟨rfl,y3⟩:=hy3
 obtain ⟨ad3,rfl⟩:=bytes_some y3
 have L3:=hid (show Lg B W w3 g a p d o (Looked S d) F n from ⟨D3,hHeld.1,HAP.out,HLOW.out⟩)
 have R3:=hid hHeld.2
 have Y3:=hid y3
 have O03:=hid ((only_below F HB0.out).trans (show Sh.Only F W0 w3 from ⟨O3.os,O3.tape,O3.output,O3.size,O3.block⟩) (fun b hb=>.inl hb))
 have HZ3:=hid (show w.heap.size<w3.drew.heap.size from Nat.lt_of_lt_of_le HZ1.out O3.size)
 have HIS:=hid (isNoughts_any ad3 c3 hL w3 y3.1)
 have hgr:g≠w.heap.size:=Nat.ne_of_lt HLOG.out.lt
 clear D3 O3 y3 hHeld j0 HRD HD Q0 HB0
 by_cases hz:hL=Sh.noughts
 ·rw [decide_eq_true hz] at HIS
  have q3:=R3.out
  obtain ⟨k0,k1,k2,f⟩:=cells3_of q3
  have f0:=f 0
  have f1:=f 1
  have f2:=f 2
  have s0:=store3_0 q3 (.int .i64 0) (by rfl)
  have O4:=put3_only w3 w.heap.size (.int .i64 0) (.int .i64 0) (.slice none 0 0)
  have HLV:=hid (load_rec (put3_row q3 (.int .i64 0) (.int .i64 0) (.slice none 0 0)))
  have L4:=hid (L3.out.over O4 HNB.out HSZ.out hgr)
  have O5:=hid (O03.out.trans O4 (fun b hb=>.inr (Nat.le_of_eq hb.symm)))
  have HZQ:=hid hz
  clear q3 f O4 hz hgr
  go_wp2_with (go_at_call 171;refine HIS.out.mono ?_;rintro e w' ⟨rfl,rfl⟩)
  refine bodyPost_ret (results_cell2 (g:=w.heap.size) Tryz.results129 rfl HLV.out rfl) rfl ?_
  have e:=HYY.out
  rw [got_2 HZQ.out] at e
  subst e
  exact ⟨.inl ⟨by decide,rfl⟩,_,RS1.out,L4.out,O5.out⟩
 ·rw [decide_eq_false hz] at HIS
  have HZQ:=hid hz
  have hd3:Below w3.heap.size w3 w3.drew:=⟨rfl,rfl,rfl,Nat.le_refl _,fun _ _=>rfl⟩
  have HRD2:=hid (dread (L3.out.grown hd3).dv hT hTB (3+2*k) HBK.out hd1)
  rw [HV2.out,HG2.out] at HRD2
  have j0:=fun (W':World) (h:LogIs W' g a n/\W'.heap[w.heap.size]?=some (.cells #[.int .i64 0,.int .i64 0,.slice none 0 0] 190 (0,0)))=>h.1.c0
  clear hz
  go_wp2_with (go_at_call 171;refine HIS.out.mono ?_;rintro e w' ⟨rfl,rfl⟩)
  refine wp_region_held_drew (S:=fun (W':World)=>LogIs W' g a n/\W'.heap[w.heap.size]?=some (.cells #[.int .i64 0,.int .i64 0,.slice none 0 0] 190 (0,0))) (by kernel_rfl) ⟨L3.out.log,R3.out⟩ (fun hHeld=>?_)
  refine tk 0 37 ?_
  refine tk 1 38 ?_
  refine tk 2 39 ?_
  refine tk 3 40 ?_
  refine tk 4 41 ?_
  refine r1 5 (some 42) fun K hK=>?_
  go_simp
  refine (partAt_any k hk8 _).mono ?_
  rintro e w5 ⟨rfl,rfl⟩
  refine hK.out _ _ (hHeld) (fun hHeld=>?_)
  clear hK K
  try simp only [Act.put,List.setIfInBounds_toArray,List.set_cons_zero,List.set_cons_succ]
  refine r1 6 (some 43) fun K hK=>?_
  go_simp
  refine (HRD2.out).mono ?_
  rintro e w5 ⟨⟨A5,n5,c5,rfl,y5⟩,D5,O5⟩
  refine hK.out _ _ (⟨hHeld.1.same (O5.block g hHeld.1.lt (fun e=>HNG.out (.inl e))),(O5.block w.heap.size HZ3.out (fun e=>HNB.out (.inl e))).trans hHeld.2⟩) (fun hHeld=>?_)
  clear hK K
  try simp only [Act.put,List.setIfInBounds_toArray,List.set_cons_zero,List.set_cons_succ]
  refine tk 7 36 ?_
  refine tk 8 44 ?_
  refine tk 9 45 ?_
  refine tk 10 9 ?_
  refine tk 11 8 ?_
  refine wpAnyH_done (by kernel_rfl) ?_ _
  by_cases hy2:y2=0
  rotate_left
  ·have L5:=hid (show Lg B W w5 g a p d o (Looked (Looked S d) d) F n from ⟨D5,hHeld.1,HAP.out,HLOW.out⟩)
   have q5:=hHeld.2
   have O05:=hid (O03.out.trans (show Sh.Only F w3 w5 from ⟨O5.os,O5.tape,O5.output,O5.size,O5.block⟩) (fun b hb=>.inl hb))
   have hqn:(y2 == 0)=false:=by simpa using hy2
   obtain ⟨k0,k1,k2,f⟩:=cells3_of q5
   have f0:=f 0
   have f1:=f 1
   have f2:=f 2
   have s0:=store3_0 q5 (.int .i64 0) (by rfl)
   have O4:=put3_only w5 w.heap.size (.int .i64 0) (.int .i64 0) (.slice none 0 0)
   have HLV:=hid (load_rec (put3_row q5 (.int .i64 0) (.int .i64 0) (.slice none 0 0)))
   have L6:=hid (L5.out.over O4 HNB.out HSZ.out hgr)
   have O6:=hid (O05.out.trans O4 (fun b hb=>.inr (Nat.le_of_eq hb.symm)))
   have RS:=hid (RS1.out.trans RS2.out)
   have HY2:=hid hy2
   clear D5 O5 y5 hHeld j0 HRD2 q5 f O4 hy2 hgr
   go_wp2_with fail
   refine bodyPost_ret (results_cell2 (g:=w.heap.size) Tryz.results129 rfl HLV.out rfl) rfl ?_
   have e:=HYY.out
   rw [got_3 HZQ.out HY2.out] at e
   subst e
   exact ⟨.inl ⟨HY2.out,rfl⟩,_,RS.out,L6.out,O6.out⟩
  subst hy2
  have hy5:n5=128/\Sh.Bytes w3.drew w5 A5 l:=by
   rcases y5 with ⟨_,h1,h2⟩ | ⟨h1,_⟩
   ·exact ⟨h1,h2⟩
   ·exact absurd rfl h1
  clear y5
  obtain ⟨rfl,y5⟩:=hy5
  obtain ⟨ad5,rfl⟩:=bytes_some y5
  have L5:=hid (show Lg B W w5 g a p d o (Looked (Looked S d) d) F n from ⟨D5,hHeld.1,HAP.out,HLOW.out⟩)
  have q5:=hHeld.2
  have hF3:∀x,some ad3=some x->¬F x.block:=fun x hx e=>by
   have h1:=(Y3.out.2 x hx).1
   have h2:=HLT.out _ (.inl e)
   have h3:=HZ1.out
   omega
  have y3:=bytes_only (show Sh.Bytes W0.drew w3.drew (some ad3) hL from Y3.out) hF3 O5
  have O05:=O03.out.trans (show Sh.Only F w3 w5 from ⟨O5.os,O5.tape,O5.output,O5.size,O5.block⟩) (fun b hb=>.inl hb)
  have HZ5:=hid (show w.heap.size<w5.heap.size from Nat.lt_of_lt_of_le HZ3.out O5.size)
  have hBW:=D5.on.bel
  have HDEC:=hid (decode_any (some ad3) (some ad5) 128 c3 128 c5 hL l w5 hv1.2 hv2.2 y3.1 y5.1 (by decide) (by decide) (HTw.out w5 hBW) (HFw.out w5 hBW))
  have RS:=hid (RS1.out.trans RS2.out)
  have Q5:=hid q5
  have O5':=hid O05
  clear D5 O5 y5 y3 hHeld j0 HRD2 hF3 hBW q5 O05
  go_wp2_with fail
  refine HDEC.out.mono ?_
  rintro e w6 (⟨hok,rfl,b6⟩ | ⟨hok,v,rfl,own6,b6⟩)
  ·have q6:=(b6.block w.heap.size HZ5.out).trans Q5.out
   obtain ⟨k0,k1,k2,f⟩:=cells3_of q6
   have f0:=f 0
   have f1:=f 1
   have f2:=f 2
   have s0:=store3_0 q6 (.int .i64 0) (by rfl)
   have O7:=put3_only w6 w.heap.size (.int .i64 0) (.int .i64 0) (.slice none 0 0)
   have HLV:=hid (load_rec (put3_row q6 (.int .i64 0) (.int .i64 0) (.slice none 0 0)))
   have L7:=hid ((L5.out.grown b6).over O7 HNB.out HSZ.out hgr)
   have O8:=hid ((O5'.out.trans (only_below F b6) (fun b hb=>.inl hb)).trans O7 (fun b hb=>.inr (Nat.le_of_eq hb.symm)))
   have HOK:=hid hok
   clear q6 f O7 hok b6 hgr
   go_wp2_with fail
   refine bodyPost_ret (results_cell2 (g:=w.heap.size) Tryz.results129 rfl HLV.out rfl) rfl ?_
   have e:=HYY.out
   rw [got_4 HZQ.out HOK.out] at e
   subst e
   exact ⟨.inl ⟨by decide,rfl⟩,_,RS.out,L7.out,O8.out⟩
  ·have q6:=(b6.block w.heap.size HZ5.out).trans Q5.out
   obtain ⟨A6,c6,rfl,_,_,_⟩:=own_shape own6
   obtain ⟨k0,k1,k2,f⟩:=cells3_of q6
   have f0:=f 0
   have f1:=f 1
   have f2:=f 2
   have s0:=store3_0 q6 (.int .i64 ((numAt hL 0:Nat):Int)) (by rfl)
   have O7:=put3_only w6 w.heap.size (.int .i64 ((numAt hL 0:Nat):Int)) (.int .i64 ((numAt hL 1:Nat):Int)) (.slice A6 128 c6)
   have HLV:=hid (load_rec (put3_row q6 (.int .i64 ((numAt hL 0:Nat):Int)) (.int .i64 ((numAt hL 1:Nat):Int)) (.slice A6 128 c6)))
   have L7:=hid ((L5.out.grown b6).over O7 HNB.out HSZ.out hgr)
   have O8:=hid ((O5'.out.trans (only_below F b6) (fun b hb=>.inl hb)).trans O7 (fun b hb=>.inr (Nat.le_of_eq hb.symm)))
   have OWN:=hid (own_low (Sh.same_row own6 (fun x hx=>O7.block x ((own6.lt x hx).2) (by have:=(own6.lt x hx).1;have:=HZ5.out;omega))) (Nat.le_of_lt HZ5.out))
   have HOK:=hid hok
   generalize hx0:numAt hL 0=x0 at *
   generalize hx1:numAt hL 1=x1 at *
   have HX0:=hid hx0
   have HX1:=hid hx1
   clear q6 f O7 hok b6 own6 hx0 hx1 hgr
   go_wp2_with fail
   refine bodyPost_ret (results_cell2 (g:=w.heap.size) Tryz.results129 rfl HLV.out rfl) rfl ?_
   have e:=HYY.out
   rw [got_4 HZQ.out HOK.out] at e
   subst e
   exact ⟨.inr ⟨rfl,A6,c6,by rw [HX0.out,HX1.out];rfl,OWN.out⟩,_,RS.out,L7.out,O8.out⟩
end
def MkT (y1:Int) (X:Sh.Bs) (S:Sh.Sf) (o:Nat->Int) (d k:Nat) (b:Sh.Bs) (y:Int) (e:Stt):Prop :=
 (y1=0/\X=b/\y=0/\e=⟨Looked S d,o⟩)\/(¬(y1=0/\X=b)/\∃z S',DW (Looked S d) d (o d) k b y z S'/\e=⟨S',put1 o d z⟩)
def MkS (S:Sh.Sf) (o:Nat->Int) (d k:Nat) (b:Sh.Bs) (y:Int) (e:Stt):Prop:=MkT (rdY S d k) (V S d (dataOf k)) S o d k b y e
def MkQ (J:Vk) (w:World) (s:SuP) (o:Nat->Int) (S:Sh.Sf) (F:Nat->Prop) (D U:Set0) (y1:Int) (X:Sh.Bs) (d k:Nat) (b:Sh.Bs) (e:Ending) (w':World):Prop :=
 ∃(y:Int) (t:Stt),e=.returned (.int .i64 y)/\MkT y1 X S o d k b y t/\RGoes J w w' s t.o t.S F D U
section
variable {J:Vk} {w w':World} {s:SuP} {o:Nat->Int} {S:Sh.Sf} {F:Nat->Prop} {D U:Set0} {M St:Nat}
theorem looked_waits {m d:Nat} (hL:∀x∈S.disks,x.waits.length<=m):∀x∈(Looked S d).disks,x.waits.length<=m:=by rw [looked_disks];exact hL
set_option maxRecDepth 20000 in
theorem makeSo_any (h:Vr J w s o S F D U) (hf:Fits J.n J.L s M St S) (hT:Tabs J.W) (hTB:max 0 1+1<=J.B) (st m:Nat) (hst:st<St) (hm:m<M) {A:Option Addr} {c mm:Nat} {b:Sh.Bs} (hb:Sh.Sec b) (hA:Sh.Beside w (AllV J F) A b) (hL:∀x∈S.disks,x.waits.length<=mm) (hmm:mm<=900000000) :
  Calls Tryz.prog 175 #[.pointer (some ⟨J.v,0,none⟩),.int .i64 st,.int .i64 m,.slice A 128 c] w (MkQ J w s o S F D U (rdY S (numOf s M st m) (2+2*J.L+st)) (V S (numOf s M st m) (dataOf (2+2*J.L+st))) (numOf s M st m) (2+2*J.L+st) b):=by
 have HLK:=hid (look_any h hf hT hTB st m hst hm)
 have hSL:Same S (Looked S (numOf s M st m)):=(Same.refl S).looked _
 have hsec:Sh.Sec (V S (numOf s M st m) (dataOf (2+2*J.L+st))):=h.secs hf (show 2+2*J.L+st<2+2*J.L+St by omega) _ (hf.num_lt st hm)
 have HSEC:=hid hsec
 have HF:=hid (hf.same hSL.len hSL.sectors)
 have HB:=hid (And.intro hb hA)
 have HL:=hid hL
 generalize hd:numOf s M st m=d at *
 have HD:=hid hd
 generalize hk:2+2*J.L+st=k at *
 have HK:=hid hk
 generalize hy1:rdY S d k=y1 at *
 have HY1:=hid hy1
 generalize hX:V S d (dataOf k)=X at *
 have HXX:=hid hX
 clear h hf hd hk hy1 hX hb hA hL hSL hsec
 go_enter Tryz.func175,Tryz.ntmps175
 go_wp2_with fail
 refine HLK.out.mono ?_
 rintro e w1 ⟨⟨A1,n1,c1,rfl,hX1⟩,hS1⟩
 have hA1:=HB.out.2.moves (show Sh.Moves (AllV J F) w (AllV J F) w1 from ⟨hS1.2,fun _ e=>.inl e⟩)
 have hset:=set_any hS1.1 HF.out hT hTB st m hst hm (c:=c) HB.out.1 hA1 (looked_waits HL.out) hmm
 rw [HD.out,HK.out] at hset
 have HST:=hid hset
 have HS1:=hid hS1
 have HA1:=hid hA1
 clear hset hS1 hA1 HLK
 have fin:∀(e:Ending) (w2:World),¬(y1=0/\X=b)->(∃y:Int,e=.returned (.int .i64 y)/\SetR J w1 s o (Looked S d) F D U d k b y w2)->MkQ J w s o S F D U y1 X d k b e w2:=by
  rintro e w2 hn ⟨y,rfl,x,S',hD,hG⟩
  exact ⟨y,⟨S',put1 o d x⟩,rfl,.inr ⟨hn,x,S',hD,rfl⟩,hG.trans ⟨HS1.out.2,fun _ e=>.inl e⟩⟩
 have FIN:=hid fin
 clear fin
 by_cases h0:y1=0
 ·subst h0
  have hX2:n1=128/\Sh.Bytes w w1 A1 X:=by
   rcases hX1 with ⟨_,h1,h2⟩ | ⟨h1,_⟩
   ·exact ⟨h1,h2⟩
   ·exact absurd rfl h1
  clear hX1
  obtain ⟨rfl,hX2⟩:=hX2
  have HEQ:=hid (equal_any A1 A 128 c1 128 c X b w1 HSEC.out.2 HB.out.1.2 hX2.1 HA1.out.1)
  clear hX2
  by_cases hb:X=b
  ·rw [decide_eq_true hb] at HEQ
   have HBB:=hid hb
   clear hb
   go_wp2_with (go_at_call 200;refine HEQ.out.mono ?_;rintro e w' ⟨rfl,rfl⟩)
   go_ret
   exact ⟨0,⟨Looked S d,o⟩,rfl,.inl ⟨rfl,HBB.out,rfl,rfl⟩,RStay.goes HS1.out⟩
  ·rw [decide_eq_false hb] at HEQ
   have HBB:=hid hb
   clear hb
   go_wp2_with (go_at_call 200;refine HEQ.out.mono ?_;rintro e w' ⟨rfl,rfl⟩)
   refine HST.out.mono ?_
   rintro e w2 ⟨y,rfl,hS⟩
   have HSS:=hid hS
   clear hS
   go_wp2
   go_ret
   exact FIN.out _ _ (fun e=>HBB.out e.2) ⟨y,rfl,HSS.out⟩
 ·have hqn:(y1 == 0)=false:=by simpa using h0
  have H0:=hid h0
  clear h0 hX1
  go_wp2_with fail
  refine HST.out.mono ?_
  rintro e w2 ⟨y,rfl,hS⟩
  have HSS:=hid hS
  clear hS
  go_wp2
  go_ret
  exact FIN.out _ _ (fun e=>H0.out e.1) ⟨y,rfl,HSS.out⟩
end
def blkOn (s:SuP) (M rs rp:Nat):Nat:=numOf s M rs (L.memAt M (L.par M rs) rp)
inductive RedoR (LL:Nat) (s:SuP) (M St nr rs rp:Nat) (l:Sh.Bs) (S:Sh.Sf) (o:Nat->Int):Int->Stt->Prop
 | beyond:St<=rs\/M-1<=rp->RedoR LL s M St nr rs rp l S o 0 ⟨S,o⟩
 | other:rs<St->rp<M-1->numOf s M rs (L.par M rs)≠nr->RedoR LL s M St nr rs rp l S o 0 ⟨S,o⟩
 | lack:rs<St->rp<M-1->numOf s M rs (L.par M rs)=nr->rdY S (blkOn s M rs rp) (2+2*LL+rs)≠0 ->
   RedoR LL s M St nr rs rp l S o (if rdY S (blkOn s M rs rp) (2+2*LL+rs)=4\/rdY S (blkOn s M rs rp) (2+2*LL+rs)=5 then 0 else rdY S (blkOn s M rs rp) (2+2*LL+rs)) ⟨Looked S (blkOn s M rs rp),o⟩
 | done (y:Int) (t:Stt):rs<St->rp<M-1->numOf s M rs (L.par M rs)=nr->rdY S (blkOn s M rs rp) (2+2*LL+rs)=0 ->
   MkS (Looked S (blkOn s M rs rp)) o nr (2+2*LL+rs) (xorL l (V S (blkOn s M rs rp) (dataOf (2+2*LL+rs)))) y t->RedoR LL s M St nr rs rp l S o y t
def RS3 (J:Vk) (q M rs:Nat) (W':World):Prop:=W'.cell? ⟨J.v,2,none⟩=some (.int .i64 M)/\W'.cell? ⟨q,0,none⟩=some (.int .i64 rs)
def RS9 (q gm rs rp dm:Nat) (W':World):Prop:=W'.cell? ⟨q,0,none⟩=some (.int .i64 rs)/\W'.cell? ⟨q,1,none⟩=some (.int .i64 rp)/\W'.cell? ⟨gm,rp,none⟩=some (.int .i64 dm)
def RS14 (q rs:Nat) (A:Option Addr) (c:Nat) (W':World):Prop:=W'.cell? ⟨q,0,none⟩=some (.int .i64 rs)/\W'.cell? ⟨q,2,none⟩=some (.slice A 128 c)
section
variable {J:Vk} {w w':World} {s:SuP} {o:Nat->Int} {S:Sh.Sf} {F:Nat->Prop} {D U:Set0} {M St:Nat}
def RedoQ (J:Vk) (w:World) (s:SuP) (o:Nat->Int) (S:Sh.Sf) (F:Nat->Prop) (D U:Set0) (M St nr rs rp:Nat) (l:Sh.Bs) (e:Ending) (w':World):Prop :=
 ∃(y:Int) (t:Stt),e=.returned (.int .i64 y)/\RedoR J.L s M St nr rs rp l S o y t/\RGoes J w w' s t.o t.S F D U
set_option maxRecDepth 20000 in
theorem redo_beyond (h:Vr J w s o S F D U) (hf:Fits J.n J.L s M St S) (nr rs rp:Nat) (hx:St<=rs\/M-1<=rp) (A:Option Addr) (c m:Nat) (l:Sh.Bs) :
  Calls Tryz.prog 130 #[.pointer (some ⟨J.v,0,none⟩),.int .i64 nr,.agg #[.int .i64 rs,.int .i64 rp,.slice A m c]] w (RedoQ J w s o S F D U M St nr rs rp l):=by
 have hb0:Below w.heap.size w (w.alloc (.cells #[.int .i64 rs,.int .i64 rp,.slice A m c] 190)):=(Below.refl _ _).alloc (Nat.le_refl _) _
 have q0:=heap_alloc_new w (.cells #[.int .i64 rs,.int .i64 rp,.slice A m c] 190)
 have V0:=h.grown hb0
 have c2:=cell_of_row _ _ 2 _ _ _ V0.vo.vol.root
 have c4:=cell_of_row _ _ 4 _ _ _ V0.vo.vol.root
 simp only [List.getElem?_toArray,List.getElem?_cons_zero,List.getElem?_cons_succ,hf.mem,hf.str] at c2 c4
 obtain ⟨k0,k1,k2,_⟩:=cells3_of q0
 have HB0:=hid hb0
 have HH:=hid (And.intro h hx)
 obtain ⟨M1,hM1⟩:∃M1:Nat,M=M1+1:=⟨M-1,by have:=hf.m3;omega⟩
 subst hM1
 have e1:((M1+1:Nat):Int)-1=(M1:Int):=by omega
 have hM16:=hf.m16
 by_cases hs:St<=rs
 ·have d1:decide (St<=rs)=true:=by simpa using hs
  clear h hf V0 q0 hb0 hx hs
  go_enter Tryz.func130,Tryz.ntmps130
  go_wp2
  go_quiet (fail)
  go_wp2
  go_ret
  exact ⟨0,⟨S,o⟩,rfl,.beyond HH.out.2,RGoes.here HH.out.1 (HB0.out.trans ((drew_n _ _).mono HB0.out.size))⟩
 ·have d1:decide (St<=rs)=false:=by simpa using hs
  have d2:decide (M1<=rp)=true:=by simp;omega
  clear h hf V0 q0 hb0 hx hs
  go_enter Tryz.func130,Tryz.ntmps130
  go_wp2
  go_quiet (fail)
  go_wp2
  go_ret
  exact ⟨0,⟨S,o⟩,rfl,.beyond HH.out.2,RGoes.here HH.out.1 (HB0.out.trans ((drew_n _ _).mono HB0.out.size))⟩
theorem own_nz {base n:Nat} {e:TypeId} {v:Value} {xs:List Value} (h:w.ownsRow base e 1 v n xs) (hn:0<n):∃g cap,v=.slice (some ⟨g,0,none⟩) n cap:=by
 rcases h.2 with ⟨rfl,rfl⟩ | ⟨g,cap,cur,rfl,_⟩
 ·omega
 ·exact ⟨g,cap,rfl⟩
theorem rs_moves {F':Nat->Prop} {q:Nat} {t:TypeId} {cs:Array Value} (hq:w.heap[q]?=some (.cells cs t (0,0))) (hn:¬AllV J F q) (m:Sh.Moves (AllV J F) w (AllV J F') w') (i:Nat) {v:Value} (hv:w.cell? ⟨q,i,none⟩=some v):w'.cell? ⟨q,i,none⟩=some v :=
 (m.1.cell (p:=⟨q,i,none⟩) (lt_of_block hq) hn).trans hv
set_option maxRecDepth 20000 in
set_option maxHeartbeats 4000000 in
theorem redo_any (h:Vr J w s o S F D U) (hf:Fits J.n J.L s M St S) (hT:Tabs J.W) (hTB:max 0 1+1<=J.B) (hP:Go.Proofs.YtepoepmndckmaaaGreatDoor.L.Tab J.W) (hPB:3+1<=J.B) (nr rs rp:Nat) (hs:rs<St) (hp:rp<M-1) {A:Option Addr} {c mm:Nat} {l:Sh.Bs} (hl:Sh.Sec l) (hA:Sh.Beside w (AllV J F) A l) (hL:∀x∈S.disks,x.waits.length<=mm) (hmm:mm<=900000000) :
  Calls Tryz.prog 130 #[.pointer (some ⟨J.v,0,none⟩),.int .i64 nr,.agg #[.int .i64 rs,.int .i64 rp,.slice A 128 c]] w (RedoQ J w s o S F D U M St nr rs rp l):=by
 have hb0:Below w.heap.size w (w.alloc (.cells #[.int .i64 rs,.int .i64 rp,.slice A 128 c] 190)):=(Below.refl _ _).alloc (Nat.le_refl _) _
 have q0:=heap_alloc_new w (.cells #[.int .i64 rs,.int .i64 rp,.slice A 128 c] 190)
 have V0:=h.grown hb0
 have c2:=cell_of_row _ _ 2 _ _ _ V0.vo.vol.root
 have c4:=cell_of_row _ _ 4 _ _ _ V0.vo.vol.root
 simp only [List.getElem?_toArray,List.getElem?_cons_zero,List.getElem?_cons_succ,hf.mem,hf.str] at c2 c4
 obtain ⟨k0,k1,k2,_⟩:=cells3_of q0
 have hM16:=hf.m16
 have hM3:=hf.m3
 have hs2:=hf.s2
 have hpl:=L.par_lt M rs (by omega)
 have hdl:=L.memAt_lt M (L.par M rs) rp (by omega)
 have HMB:=hid (fun (w1:World) (hb:Below w.heap.size w w1)=>L.members_ok M rs w1 hM3 hM16 (by omega) (hP.below hPB (h.grown hb).bel))
 have hdnum:=hf.num_lt rs hdl
 have HPD:=hid (And.intro hpl (And.intro hdl hdnum))
 have HRR:=hid (fun (y:Int) (t:Stt) (hq:RedoR J.L s M St nr rs rp l S o y t)=>hq)
 have HB0:=hid hb0
 have HH:=hid (And.intro h (And.intro hf (And.intro hl (And.intro hA hL))))
 have HQ0:=hid q0
 have hn0:¬AllV J F w.heap.size:=fun e=>Nat.lt_irrefl _ (h.lt _ e)
 have HN0:=hid hn0
 obtain ⟨M1,hM1⟩:∃M1:Nat,M=M1+1:=⟨M-1,by omega⟩
 have HM1:=hid hM1
 have e1:(M:Int)-1=(M1:Int):=by omega
 have d1:decide (St<=rs)=false:=by simpa using hs
 have d2:decide (M1<=rp)=false:=by simp;omega
 have HS:=hid (And.intro hs hp)
 have HSZ:=hid (And.intro (show w.heap.size<(w.alloc (.cells #[.int .i64 rs,.int .i64 rp,.slice A 128 c] 190)).heap.size by simp) V0.vo.vol.vlt)
 clear h hf V0 q0 hb0 hs hp hM1 hn0 hpl hdl hdnum hl hA hL
 go_enter Tryz.func130,Tryz.ntmps130
 go_wp2
 go_quiet (fail)
 generalize (w.alloc (.cells #[.int .i64 rs,.int .i64 rp,.slice A 128 c] 190))=w0 at *
 have HB1:=hid (HB0.out.trans ((drew_n w0 nq).mono HB0.out.size))
 have hw1:(w0.drewN nq).heap=w0.heap:=rfl
 have HMM:=hid (HMB.out _ (HB1.out.drew))
 have HK2:=hid (And.intro k0 (And.intro k1 k2))
 have HQ1:=hid (show (w0.drewN nq).heap[w.heap.size]?=_ from HQ0.out)
 have HSZ1:=hid (show w.heap.size<(w0.drewN nq).drew.heap.size/\J.v<(w0.drewN nq).drew.heap.size from HSZ.out)
 have hS3:RS3 J w.heap.size M rs (w0.drewN nq).drew:=⟨c2,k0⟩
 have HS3:=hid hS3
 have j0:=fun (W':World) (h:RS3 J w.heap.size M rs W')=>h.1
 have j1:=fun (W':World) (h:RS3 J w.heap.size M rs W')=>h.2
 clear c2 c4 k0 k1 k2 hS3
 go_wp2
 refine wp_region_held_drew (S:=RS3 J w.heap.size M rs) (by kernel_rfl) HS3.out (fun hHeld=>?_)
 refine tk 0 31 ?_
 refine tk 1 32 ?_
 refine tk 2 33 ?_
 refine tk 3 34 ?_
 refine tk 4 35 ?_
 refine tk 5 36 ?_
 refine tk 6 37 ?_
 refine r1 7 (some 38) fun K hK=>?_
 go_simp
 refine (HMM.out).mono ?_
 rintro e w3 ⟨v,rfl,hown,hb3⟩
 refine hK.out _ _ (⟨(hb3.cell (p:=⟨J.v,2,none⟩) HSZ1.out.2).trans hHeld.1,(hb3.cell (p:=⟨w.heap.size,0,none⟩) HSZ1.out.1).trans hHeld.2⟩) (fun hHeld=>?_)
 clear hK K
 try simp only [Act.put,List.setIfInBounds_toArray,List.set_cons_zero,List.set_cons_succ]
 refine tk 8 30 ?_
 refine tk 9 39 ?_
 refine tk 10 40 ?_
 refine tk 11 7 ?_
 refine tk 12 8 ?_
 refine wpAnyH_done (by kernel_rfl) ?_ _
 have V3:=HH.out.1.grown (HB1.out.drew.trans (hb3.mono HB1.out.drew.size))
 have hb03:Below w.heap.size w w3:=HB1.out.drew.trans (hb3.mono HB1.out.drew.size)
 obtain ⟨gm,cap,rfl⟩:=own_nz hown (by rw [L.memL_length];omega)
 have hgl:=(hown.lt gm rfl)
 have hcP:w3.cell? ⟨gm,M1,none⟩=some (.int .i64 (L.par M rs:Nat)):=by
  have hc:=hown.cellAt M1 (by rw [L.memL_length,HM1.out];omega)
  rw [L.ints_get _ _ (by rw [L.memL_length,HM1.out];omega),L.memL_get _ _ _ (by rw [HM1.out];omega)] at hc
  have e:L.memAt M (L.par M rs) M1=L.par M rs:=by
   have:=L.memAt_last M (L.par M rs) HPD.out.1
   rwa [show M-1=M1 by rw [HM1.out];rfl] at this
  rw [e] at hc
  exact hc
 have hcD:w3.cell? ⟨gm,rp,none⟩=some (.int .i64 (L.memAt M (L.par M rs) rp:Nat)):=by
  have hc:=hown.cellAt rp (by rw [L.memL_length];have:=HS.out.2;omega)
  rw [L.ints_get _ _ (by rw [L.memL_length];have:=HS.out.2;omega),L.memL_get _ _ _ (by have:=HS.out.2;omega)] at hc
  exact hc
 have HNU:=hid (numberOf_ok V3.vo.vol HH.out.2.1.mem rs (L.par M rs))
 have hq3:=(hb3.block w.heap.size HSZ1.out.1).trans HQ1.out
 obtain ⟨k0,k1,k2,_⟩:=cells3_of hq3
 have HQ3:=hid hq3
 have hngm:¬AllV J F gm:=fun e=>by
  have h1:=HH.out.1.lt _ e
  have h2:=hgl.1
  have h3:=HSZ1.out.1
  omega
 rw [L.memL_length] at *
 have hrpM:rp<M:=by have:=HS.out.2;omega
 have HV3:=hid (And.intro V3 (And.intro hb03 (And.intro hngm hgl.2)))
 have HLK:=hid (look_any (V3.grown (drew_below w3)) HH.out.2.1 hT hTB rs _ HS.out.1 HPD.out.2.1)
 have hS9:RS9 w.heap.size gm rs rp (L.memAt M (L.par M rs) rp) w3.drew:=⟨k0,k1,hcD⟩
 have HS9:=hid hS9
 have HCP:=hid hcP
 have hML:M1<M:=by rw [HM1.out];omega
 clear hS9 hown hb3 V3 hb03 hgl hngm hq3 hcD HMM j0 j1 hHeld
 generalize hdm:L.memAt M (L.par M rs) rp=dm at *
 generalize hpp:L.par M rs=p at *
 have HDP:=hid (And.intro hpp hdm)
 clear hdm hpp
 by_cases hne:numOf s M rs p=nr
 rotate_left
 ·have q1:((numOf s M rs p:Nat) == nr)=false:=by simpa using hne
  have HNE:=hid hne
  clear hne
  generalize hnn:numOf s M rs p=nn at *
  have HNN:=hid hnn
  clear hnn
  go_wp2_with (go_at_call 105;refine HNU.out.mono ?_;rintro e w' ⟨rfl,rfl⟩)
  go_ret
  exact ⟨0,⟨S,o⟩,rfl,.other HS.out.1 HS.out.2 (by rw [HDP.out.1,HNN.out];exact HNE.out),RGoes.here HH.out.1 HV3.out.2.1⟩
 ·have q1:((numOf s M rs p:Nat) == nr)=true:=by simpa using hne
  have HNE:=hid hne
  rw [hne] at q1 HNU
  clear hne
  have j0:=fun (W':World) (h:RS9 w.heap.size gm rs rp dm W')=>h.1
  have j1:=fun (W':World) (h:RS9 w.heap.size gm rs rp dm W')=>h.2.1
  have j2:=fun (W':World) (h:RS9 w.heap.size gm rs rp dm W')=>h.2.2
  go_wp2_with (go_at_call 105;refine HNU.out.mono ?_;rintro e w' ⟨rfl,rfl⟩)
  clear k0 k1 k2 hcP
  refine wp_region_held_drew (S:=RS9 w.heap.size gm rs rp dm) (by kernel_rfl) HS9.out (fun hHeld=>?_)
  refine tk 0 58 ?_
  refine tk 1 59 ?_
  refine tk 2 60 ?_
  refine tk 3 61 ?_
  refine tk 4 62 ?_
  refine tk 5 63 ?_
  refine tk 6 64 ?_
  refine tk 7 65 ?_
  refine r1 8 (some 66) fun K hK=>?_
  go_simp
  refine (HLK.out).mono ?_
  rintro e w4 ⟨⟨A4,n4,c4,rfl,hX4⟩,hS4⟩
  refine hK.out _ _ (⟨(hS4.2.cell (p:=⟨w.heap.size,0,none⟩) (lt_of_block HQ3.out) HN0.out).trans hHeld.1,(hS4.2.cell (p:=⟨w.heap.size,1,none⟩) (lt_of_block HQ3.out) HN0.out).trans hHeld.2.1,(hS4.2.cell (p:=⟨gm,rp,none⟩) HV3.out.2.2.2 HV3.out.2.2.1).trans hHeld.2.2⟩) (fun hHeld=>?_)
  clear hK K
  try simp only [Act.put,List.setIfInBounds_toArray,List.set_cons_zero,List.set_cons_succ]
  refine tk 9 57 ?_
  refine tk 10 67 ?_
  refine tk 11 68 ?_
  refine tk 12 10 ?_
  refine tk 13 8 ?_
  refine wpAnyH_done (by kernel_rfl) ?_ _
  have hq4:w4.heap[w.heap.size]?=some (.cells #[.int .i64 rs,.int .i64 rp,.slice A 128 c] 190 (0,0)):=(hS4.2.block w.heap.size (lt_of_block HQ3.out) HN0.out).trans HQ3.out
  obtain ⟨k0,k1,k2,_⟩:=cells3_of hq4
  have hm4:Sh.Moves (AllV J F) w (AllV J F) w4:=(moves_grown HV3.out.2.1).trans (⟨(show Sh.Only (AllV J F) w3 w4 from ⟨hS4.2.os,hS4.2.tape,hS4.2.output,hS4.2.size,hS4.2.block⟩),fun _ e=>.inl e⟩:Sh.Moves (AllV J F) w3 (AllV J F) w4)
  have hly:=isLacking_any (rdY S (numOf s M rs dm) (2+2*J.L+rs))
  have hsec:Sh.Sec (V S (numOf s M rs dm) (dataOf (2+2*J.L+rs))):=HH.out.1.secs HH.out.2.1 (show 2+2*J.L+rs<2+2*J.L+St by have:=HS.out.1;omega) _ HPD.out.2.2
  have hbk:blkOn s M rs rp=numOf s M rs dm:=by unfold blkOn;rw [HDP.out.1,HDP.out.2]
  have HBK:=hid hbk
  have HSEC:=hid hsec
  have HS4:=hid hS4
  have HM4:=hid hm4
  have HQ4:=hid hq4
  have HA4:=hid (HH.out.2.2.2.1.moves hm4)
  have HNE2:Hid (numOf s M rs (L.par M rs)=nr):=hid (by rw [HDP.out.1];exact HNE.out)
  have hSL:Same S (Looked S (numOf s M rs dm)):=(Same.refl S).looked _
  have HF4:=hid (HH.out.2.1.same hSL.len hSL.sectors)
  clear j0 j1 j2 hHeld hS4 hm4 hq4 hbk hsec hSL
  generalize hy1:rdY S (numOf s M rs dm) (2+2*J.L+rs)=y1 at *
  have HY1:=hid hy1
  clear hy1
  by_cases h0:y1=0
  rotate_left
  ·have r:=RedoR.lack (LL:=J.L) (s:=s) (M:=M) (St:=St) (nr:=nr) (rs:=rs) (rp:=rp) (l:=l) (S:=S) (o:=o) HS.out.1 HS.out.2 HNE2.out (by rw [HBK.out,HY1.out];exact h0)
   rw [HBK.out,HY1.out] at r
   have hqn:(y1 == 0)=false:=by simpa using h0
   clear hX4 h0
   by_cases hl:y1=4\/y1=5
   ·rw [if_pos hl] at r
    rw [decide_eq_true hl] at hly
    have HR:=hid r
    clear r hl
    go_wp2_with (go_at_call 41;refine (hly _).mono ?_;rintro e w' ⟨rfl,rfl⟩)
    go_ret
    exact ⟨0,_,rfl,HR.out,F,HS4.out.1,HM4.out⟩
   ·rw [if_neg hl] at r
    rw [decide_eq_false hl] at hly
    have HR:=hid r
    clear r hl
    go_wp2_with (go_at_call 41;refine (hly _).mono ?_;rintro e w' ⟨rfl,rfl⟩)
    go_ret
    exact ⟨y1,_,rfl,HR.out,F,HS4.out.1,HM4.out⟩
  ·subst h0
   have hX5:n4=128/\Sh.Bytes w3.drew w4 A4 (V S (numOf s M rs dm) (dataOf (2+2*J.L+rs))):=by
    rcases hX4 with ⟨_,h1,h2⟩ | ⟨h1,_⟩
    ·exact ⟨h1,h2⟩
    ·exact absurd rfl h1
   clear hX4
   obtain ⟨rfl,hX5⟩:=hX5
   rw [show decide ((0:Int)=4\/(0:Int)=5)=false from by decide] at hly
   have HFIN:=hid (fun (y:Int) (t:Stt)=>RedoR.done (LL:=J.L) (s:=s) (M:=M) (St:=St) (nr:=nr) (rs:=rs) (rp:=rp) (l:=l) (S:=S) (o:=o) y t HS.out.1 HS.out.2 HNE2.out (by rw [HBK.out];exact HY1.out))
   rw [HBK.out] at HFIN
   generalize hXV:V S (numOf s M rs dm) (dataOf (2+2*J.L+rs))=X at *
   have HXO:=hid (rxor_ok A A4 c c4 l X w4.drew HH.out.2.2.1.2 HSEC.out.2 HA4.out.1 hX5.1)
   have hpM:p<M:=HPD.out.1
   have HMS:=hid (fun (w5:World) (E:Option Addr) (f:Nat) (hown:w5.ownsRow w4.drew.heap.size 5 1 (.slice E 128 f) 128 (bts (xorL l X))) (hb5:Below w4.drew.heap.size w4.drew w5)=>makeSo_any ((HS4.out.1.grown (drew_below w4)).grown hb5) HF4.out hT hTB rs p HS.out.1 hpM (c:=f) (xorL_sec HH.out.2.2.1 HSEC.out) ((HS4.out.1.grown (drew_below w4)).beside_new (bytes_own hown (Nat.le_refl _))) (looked_waits HH.out.2.2.2.2) hmm)
   rw [HNE.out] at HMS
   have hS14:RS14 w.heap.size rs A c w4.drew:=⟨k0,k2⟩
   have HS14:=hid hS14
   have HQD:=hid (show w4.drew.heap[w.heap.size]?=_ from HQ4.out)
   have j0:=fun (W':World) (h:RS14 w.heap.size rs A c W')=>h.1
   have j2:=fun (W':World) (h:RS14 w.heap.size rs A c W')=>h.2
   have HXX:=hid hXV
   clear hX5 hS14 hXV k0 k1 k2
   go_wp2_with (go_at_call 41;refine (hly _).mono ?_;rintro e w' ⟨rfl,rfl⟩)
   refine wp_region_held_drew (S:=RS14 w.heap.size rs A c) (by kernel_rfl) HS14.out (fun hHeld=>?_)
   refine tk 0 76 ?_
   refine tk 1 77 ?_
   refine tk 2 78 ?_
   refine tk 3 79 ?_
   refine tk 4 80 ?_
   refine tk 5 81 ?_
   refine tk 6 82 ?_
   refine r1 7 (some 83) fun K hK=>?_
   go_simp
   refine (HXO.out).mono ?_
   rintro e w5 ⟨E,f,rfl,hown,hb5⟩
   refine hK.out _ _ (⟨(hb5.cell (p:=⟨w.heap.size,0,none⟩) (lt_of_block HQD.out)).trans hHeld.1,(hb5.cell (p:=⟨w.heap.size,2,none⟩) (lt_of_block HQD.out)).trans hHeld.2⟩) (fun hHeld=>?_)
   clear hK K
   try simp only [Act.put,List.setIfInBounds_toArray,List.set_cons_zero,List.set_cons_succ]
   have hms:=hid (HMS.out w5 E f hown hb5)
   have hq5:=(hb5.block _ (lt_of_block HQD.out)).trans HQD.out
   refine r1 8 (some 84) fun K hK=>?_
   go_simp
   refine (hms.out).mono ?_
   rintro e w6 ⟨y,t,rfl,hMk,F6,V6,m6⟩
   refine hK.out _ _ (⟨rs_moves hq5 HN0.out m6 0 hHeld.1,rs_moves hq5 HN0.out m6 2 hHeld.2⟩) (fun hHeld=>?_)
   clear hK K
   try simp only [Act.put,List.setIfInBounds_toArray,List.set_cons_zero,List.set_cons_succ]
   refine tk 9 6 ?_
   refine wpAnyH_done (by kernel_rfl) ?_ _
   have HMK:=hid hMk
   have HG6:=hid (And.intro V6 ((HM4.out.trans (moves_grown (drew_below w4):Sh.Moves (AllV J F) w4 (AllV J F) w4.drew)).trans (Sh.Moves.trans (moves_grown hb5:Sh.Moves (AllV J F) w4.drew (AllV J F) w5) m6)))
   clear hHeld j0 j2 hMk V6 m6 hown hb5 hq5
   go_wp2
   go_ret
   exact ⟨y,t,rfl,HFIN.out y t HMK.out,F6,HG6.out.1,HG6.out.2⟩
end
end Go.Proofs.YtepoepmndckmaaaGreatDoor.U
