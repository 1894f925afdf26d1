/-
  What the statement's proof rests on, part 42.
  Conditions: each theorem's own.
-/
import Derived.Test.YtcepognpbeahhaaGreatDoorW41
import Derived.Test.YtcepognpbeahhaaGreatDoorWtk
open Go.Lib (hid)
namespace Go.Proofs.YtcepognpbeahhaaGreatDoor.Rc
open Go.RowKit Go.Maps
open Go.Proofs.YtcepognpbeahhaaGreatDoor.Kc (En finds dropE useE putE finds_some finds_none one_of_key placeE placeE_of keysV firstE)
def updT (hv:Nat->Sh.Bs) (k:Nat) (d:Sh.Bs) (j:Nat):Sh.Bs:=if j=k then d else hv j
theorem rowV_upd (hv:Nat->Sh.Bs) {k:Nat} (hk:k<12) (d:Sh.Bs):rowV (updT hv k d)=(rowV hv).set k (.string (Sh.strL d)):=by
 refine List.ext_getElem? fun j=>?_
 rw [List.getElem?_set]
 by_cases hj:j<12
 ·rw [rowV_get _ hj]
  by_cases q:k=j
  ·subst q
   rw [if_pos rfl,if_pos (by unfold rowV;simpa using hj)]
   simp [updT]
  ·rw [if_neg q,rowV_get _ hj]
   simp [updT,show ¬j=k from fun e=>q e.symm]
 ·have h1:∀h2:Nat->Sh.Bs,(rowV h2)[j]?=none:=fun h2=>List.getElem?_eq_none (by unfold rowV;simp;omega)
  rw [h1,h1]
  split
  ·omega
  ·rfl
theorem firstE_at {l:List En} {j:Nat} (hj:j<l.length) (h0:l[j].pins=0) (hno:∀i (hi:i<l.length),i<j->l[i].pins≠0):firstE l=j:=by
 unfold firstE
 refine (List.findIdx_eq hj).2 ⟨by simpa using h0,fun i hi=>?_⟩
 simpa using hno i (by omega) hi
theorem firstE_none {l:List En} (hno:∀i (hi:i<l.length),l[i].pins≠0):firstE l=l.length:=by
 unfold firstE
 refine List.findIdx_eq_length.2 fun e he=>?_
 obtain ⟨i,hi,rfl⟩:=List.mem_iff_getElem.1 he
 simpa using hno i hi
section
variable {w w' w1 w2:World} {xr most:Nat} {vs ls v2:Value} {hv hv1:Nat->Sh.Bs} {l l1:List En}
theorem RfIs.setText {b cap:Nat} (h:RfIs w xr (.slice (some ⟨b,0,none⟩) 12 cap) ls most hv l) {k:Nat} (hk:k<12) (d:Sh.Bs) :
  RfIs (w.setCell ⟨b,k,none⟩ (.string (Sh.strL d))) xr (.slice (some ⟨b,0,none⟩) 12 cap) ls most (updT hv k d) l/\Sh.Moves (Own xr (.slice (some ⟨b,0,none⟩) 12 cap) ls) w (Own xr (.slice (some ⟨b,0,none⟩) 12 cap) ls) (w.setCell ⟨b,k,none⟩ (.string (Sh.strL d))):=by
 have hbx:b≠xr:=fun q=>h.vx (by rw [<- q];rfl)
 refine ⟨⟨?_,?_,?_,h.vl,h.vx,h.lx,h.len,h.keys,h.lows,h.pins⟩,(Sh.Only.refl _ w).setCell (p:=⟨b,k,none⟩) (.inl (.inr (.inl rfl))) _,fun b hb=>.inl hb⟩
 ·exact (heap_setCell_other _ ⟨b,k,none⟩ _ _ (fun q=>hbx q.symm)).trans h.root
 ·rw [rowV_upd hv hk]
  exact (h.rowV.stored _ _).1
 ·exact Sh.same_row h.rowL fun a ha=>heap_setCell_other _ ⟨b,k,none⟩ _ _ (fun q=>h.vl b rfl (by rw [<- show a=b from q];exact ha))
theorem RfTo.after (hm:Sh.Moves (Own xr vs ls) w (Own xr vs ls) w1) (h:RfTo w1 xr vs ls most hv l w'):RfTo w xr vs ls most hv l w':=by
 obtain ⟨ls',h1,h2⟩:=h
 exact ⟨ls',h1,hm.trans h2⟩
theorem RfIs.without_done (h:RfIs w xr vs ls most hv l) {i:Nat} (hi:i<l.length) (ho2:w2.ownsRow w.heap.size 129 4 v2 (l.take i++l.drop (i+1)).length (cellsL (l.take i++l.drop (i+1)))) (hb2:Below w.heap.size w w2) :
  RfTo w xr vs ls most hv (dropE l l[i].k) (w2.setCell ⟨xr,2,none⟩ v2):=by
 have hdr:l.take i++l.drop (i+1)=dropE l l[i].k:=by
  have h1:=placeE_of h.keys (List.getElem_mem hi)
  have h2:=Go.Proofs.YtcepognpbeahhaaGreatDoor.Kc.dropE_at h.keys h1.2
  rw [<- place_key h.keys hi rfl] at h2
  exact h2.symm
 rw [hdr] at ho2
 have hx2:=h.grown hb2
 have hxlt:xr<w.heap.size:=lt_of_block h.root
 have hlo:∀b,v2.ownBlock=some b->w.heap.size<=b:=fun b hb=>(ho2.lt b hb).1
 refine ⟨v2,⟨?_,?_,?_,?_,h.vx,?_,Nat.le_trans (dropE_len _ _) h.len,Go.Proofs.YtcepognpbeahhaaGreatDoor.Kc.nodup_drop h.keys _,fun z hz=>h.lows z (Go.Proofs.YtcepognpbeahhaaGreatDoor.Kc.mem_dropE.1 hz).1,fun z hz=>h.pins z (Go.Proofs.YtcepognpbeahhaaGreatDoor.Kc.mem_dropE.1 hz).1⟩,?_,?_⟩
 ·rw [heap_setCell_same _ _ _ _ _ _ hx2.root]
  rfl
 ·exact Sh.same_row hx2.rowV fun b hb=>heap_setCell_other _ ⟨xr,2,none⟩ _ _ (fun q=>h.vx (by rw [hb,show b=xr from q]))
 ·exact Sh.same_row (ho2.mono (Nat.le_of_lt hxlt)) fun b hb=>heap_setCell_other _ ⟨xr,2,none⟩ _ _ (fun q=>by have:=hlo b hb;have q:b=xr:=q;omega)
 ·intro b hb q
  have h1:=(h.rowV.lt b hb).2
  have h2:=hlo b q
  omega
 ·intro q
  have h2:=hlo _ q
  omega
 ·exact (Sh.Only.of_below hb2 fun b h1 h2=>absurd h2 (by omega)).setCell (p:=⟨xr,2,none⟩) (.inl (.inl rfl)) _
 ·rintro b (q | q | q)
  ·exact .inl (.inl q)
  ·exact .inl (.inr (.inl q))
  ·exact .inr (hlo b q)
def RoomTo (w:World) (xr:Nat) (vs ls:Value) (most:Nat) (hv:Nat->Sh.Bs) (l:List En) (r:Ending) (w':World):Prop :=
 (l.length<most/\r=.returned (.int .i64 0)/\Below w.heap.size w w')\/(most<=l.length/\firstE l=l.length/\r=.returned (.int .i64 6)/\Below w.heap.size w w') \/
 (most<=l.length/\∃e,l[firstE l]?=some e/\r=.returned (.int .i64 0)/\RfTo w xr vs ls most (if e.dirty then updT hv e.k e.d else hv) (dropE l e.k) w')
set_option maxRecDepth 20000 in
set_option maxHeartbeats 2000000 in
theorem rRoom (h:RfIs w xr vs ls most hv l):Calls Tryz.prog 70 #[.pointer (some ⟨xr,0,none⟩)] w (RoomTo w xr vs ls most hv l):=by
 have HH:=hid h
 obtain ⟨A,cap,hls⟩:=Sh.own_shape2 h.rowL
 subst hls
 obtain ⟨vb,vcap,hvs⟩:=h.vform
 subst hvs
 have hlen:l.length<=1024:=h.len
 have c0:=h.c0
 have c1:=h.c1
 have c2:=h.c2
 have HP:Hid (∀r w',RoomTo w xr (.slice (some ⟨vb,0,none⟩) 12 vcap) (.slice A l.length cap) most hv l r w'->RoomTo w xr (.slice (some ⟨vb,0,none⟩) 12 vcap) (.slice A l.length cap) most hv l r w'):=hid fun _ _ q=>q
 generalize hR:RoomTo w xr (.slice (some ⟨vb,0,none⟩) 12 vcap) (.slice A l.length cap) most hv l=RR at *
 have HR:=hid hR
 clear hR h HP
 by_cases hroom:l.length<most
 ·have HQ:Hid (RR (.returned (.int .i64 0)) w.drew):=hid (by rw [<- HR.out];exact .inl ⟨hroom,rfl,(Below.refl _ w).drew⟩)
  clear HR
  generalize l.length=m at *
  go_enter Tryz.func70,Tryz.ntmps70
  go_wp2_with fail
  go_region
  go_wp2
  exact HQ.out
 ·have HL0:Hid (most<=l.length):=hid (Nat.le_of_not_lt hroom)
  generalize hm:l.length=m at *
  have HM:=hid hm
  clear hm
  go_enter Tryz.func70,Tryz.ntmps70
  go_wp2_with fail
  go_region
  have hb0:Below w.heap.size w w.drew:=(Below.refl _ w).drew
  have HM0:Hid (Sh.Moves (Own xr (.slice (some ⟨vb,0,none⟩) 12 vcap) (.slice A m cap)) w (Own xr (.slice (some ⟨vb,0,none⟩) 12 vcap) (.slice A m cap)) w.drew):=hid ⟨(Sh.Only.refl _ w).drew,fun _ h=>.inl h⟩
  have HH1:=hid (HH.out.grown hb0)
  have HB0:=hid hb0
  clear HH c0 c1 c2 hb0
  generalize w.drew=w0 at *
  have c0:=HH1.out.c0
  have c1:=HH1.out.c1
  have c2:=HH1.out.c2
  go_wp2
  go_loopw [3] (fun s wr=>∃j:Nat,j<=m/\s=.int .i64 j/\Hid (Go.Proofs.YtcepognpbeahhaaGreatDoor.Kc.SameW wr w0/\∀i (hi:i<l.length),i<j->l[i].pins≠0)) (fun s _=>m-(intOf s).toNat)
  case atStart=>exact ⟨0,Nat.zero_le _,rfl,hid ⟨rfl,fun i _ q=>absurd q (Nat.not_lt_zero i)⟩⟩
  case round =>
   obtain ⟨j,hj,rfl,hrel⟩:=hrel
   obtain ⟨hwr,hno⟩:=hrel.out
   have hwr:w0=wr:=Eq.symm hwr
   subst hwr
   by_cases hlt:j<m
   ·have hjl:j<l.length:=by rw [HM.out];exact hlt
    have hHH:=HH1.out
    obtain ⟨b,cp,hbc⟩:=hHH.lform (by omega)
    injection hbc with hA _ hcp
    subst hA
    subst hcp
    rw [<- HM.out] at hHH
    obtain ⟨e0,e1,e2,e3⟩:=hHH.ent hjl
    have hpins:=hHH.pins _ (List.getElem_mem hjl)
    by_cases hp0:l[j].pins=0
    ·have hk12:=hHH.lows _ (List.getElem_mem hjl)
     have hfe:=firstE_at hjl hp0 hno
     have HD:Hid (∀(w3 w2:World) (v2:Value) (hv3:Nat->Sh.Bs),RfIs w3 xr (.slice (some ⟨vb,0,none⟩) 12 vcap) (.slice (some ⟨b,0,none⟩) l.length cap) most hv3 l->Sh.Moves (Own xr (.slice (some ⟨vb,0,none⟩) 12 vcap) (.slice (some ⟨b,0,none⟩) l.length cap)) w0 (Own xr (.slice (some ⟨vb,0,none⟩) 12 vcap) (.slice (some ⟨b,0,none⟩) l.length cap)) w3->(hv3=if l[j].dirty then updT hv l[j].k l[j].d else hv)->w2.ownsRow w3.heap.size 129 4 v2 (l.take j++l.drop (j+1)).length (cellsL (l.take j++l.drop (j+1)))->Below w3.heap.size w3 w2->RR (.returned (.int .i64 0)) (w2.setCell ⟨xr,2,none⟩ v2)):=hid fun w3 w2 v2 hv3 g1 g2 g3 g4 g5=>by
      rw [<- HR.out,<- HM.out]
      refine .inr (.inr ⟨by rw [HM.out];exact HL0.out,l[j],by rw [hfe];exact List.getElem?_eq_getElem hjl,rfl,?_⟩)
      rw [<- g3]
      exact ((g1.without_done hjl g4 g5).after g2).after (by rw [HM.out];exact HM0.out)
     have HIX:Hid (RfIs w0 xr (.slice (some ⟨vb,0,none⟩) 12 vcap) (.slice (some ⟨b,0,none⟩) l.length cap) most hv l):=hid hHH
     have HJL:=hid hjl
     have hvx:vb≠xr:=fun q=>hHH.vx (by rw [<- q];rfl)
     have hvl:vb≠b:=fun q=>hHH.vl vb rfl (by rw [<- q];rfl)
     have fv:=hHH.rowV.frozenAt l[j].k
     have cv:=hHH.text hk12
     rw [hp0] at e3
     clear hHH hfe hno hrel hpins hp0 HH1
     generalize l[j].dirty=dt at *
     cases dt
     ·have HWO:=hid (rWithout HIX.out j HJL.out)
      generalize l[j].k=ek at *
      generalize l[j].d=ed at *
      go_wp2_with fail
      refine HWO.out.mono ?_
      rintro r w2 ⟨v2,rfl,ho2,hb2⟩
      have c22:=(HIX.out.grown hb2).c2
      have f22:=(HIX.out.grown hb2).free 2
      have HE:=hid (HD.out w0 w2 v2 hv HIX.out (Sh.Moves.refl _ _) (by rfl) ho2 hb2)
      obtain ⟨A2,cp2,hv2⟩:=Sh.own_shape2 ho2
      generalize (l.take j++l.drop (j+1)).length=mm at *
      subst hv2
      clear ho2 hb2
      go_wp2
      exact HE.out
     ·skip
      have HTX:=hid (HIX.out.setText hk12 l[j].d)
      have hkI:(l[j].k:Int)<12:=by omega
      generalize l[j].k=ek at *
      generalize l[j].d=ed at *
      go_wp2_with fail
      have far:∀(W:World) (a:Addr) (v:Value),vb≠a.block->(W.setCell ⟨vb,ek,none⟩ v).cell? a=W.cell? a:=fun W a v h=>World.cell?_setCell_far _ _ _ _ h
      refine wp_region_held_drew (S:=fun W:World=>W.cell? ⟨xr,0,none⟩=some (.slice (some ⟨vb,0,none⟩) 12 vcap)/\W.cell? ⟨xr,2,none⟩=some (.slice (some ⟨b,0,none⟩) m cap)/\W.cell? ⟨b,j*4,none⟩=some (.int .i64 (ek:Int))/\W.cell? ⟨b,j*4+1,none⟩=some (.string (Sh.strL ed))) (by kernel_rfl) ⟨c0,c2,e0,e1⟩ (fun hHeld=>?_)
      refine tk 0 40 ?_
      refine tk 1 41 ?_
      refine tk 2 42 ?_
      refine wpAnyH_take (i:=3) (oi:=⟨some 43,_,_,_,_,_⟩) (v:=?_) rfl (by kernel_rfl) (by kernel_rfl) (by kernel_rfl) (fun _ _ _ h=>h) (Or.inl ⟨by rfl,?_⟩) (by assumption) ?_
      rotate_left
      ·(intro w hSw;obtain ⟨c0w,c2w,e0w,e1w⟩:=hSw;(try dsimp only at hSw);go_simp;first | done | with_reducible rfl)
      try simp only [Act.put,List.setIfInBounds_toArray,List.set_cons_zero,List.set_cons_succ]
      refine tk 4 44 ?_
      refine tk 5 45 ?_
      refine tk 6 46 ?_
      refine wpAnyH_take (i:=7) (oi:=⟨some 47,_,_,_,_,_⟩) (v:=?_) rfl (by kernel_rfl) (by kernel_rfl) (by kernel_rfl) (fun _ _ _ h=>h) (Or.inl ⟨by rfl,?_⟩) (by assumption) ?_
      rotate_left
      ·(intro w hSw;obtain ⟨c0w,c2w,e0w,e1w⟩:=hSw;(try dsimp only at hSw);go_simp;first | done | with_reducible rfl)
      try simp only [Act.put,List.setIfInBounds_toArray,List.set_cons_zero,List.set_cons_succ]
      refine tk 8 48 ?_
      refine tk 9 49 ?_
      refine tk 10 50 ?_
      refine wpAnyH_take (i:=11) (oi:=⟨some 51,_,_,_,_,_⟩) (v:=?_) rfl (by kernel_rfl) (by kernel_rfl) (by kernel_rfl) (fun _ _ _ h=>h) (Or.inl ⟨by rfl,?_⟩) (by assumption) ?_
      rotate_left
      ·(intro w hSw;obtain ⟨c0w,c2w,e0w,e1w⟩:=hSw;(try dsimp only at hSw);go_simp;first | done | with_reducible rfl)
      try simp only [Act.put,List.setIfInBounds_toArray,List.set_cons_zero,List.set_cons_succ]
      refine tk 12 52 ?_
      refine tk 13 53 ?_
      refine tk 14 54 ?_
      refine wpAnyH_take (i:=15) (oi:=⟨some 55,_,_,_,_,_⟩) (v:=?_) rfl (by kernel_rfl) (by kernel_rfl) (by kernel_rfl) (fun _ _ _ h=>h) (Or.inl ⟨by rfl,?_⟩) (by assumption) ?_
      rotate_left
      ·(intro w hSw;obtain ⟨c0w,c2w,e0w,e1w⟩:=hSw;(try dsimp only at hSw);go_simp;first | done | with_reducible rfl)
      try simp only [Act.put,List.setIfInBounds_toArray,List.set_cons_zero,List.set_cons_succ]
      refine tk 16 56 ?_
      refine tk 17 57 ?_
      refine tk 18 58 ?_
      refine wpAnyH_take (i:=19) (oi:=⟨some 59,_,_,_,_,_⟩) (v:=?_) rfl (by kernel_rfl) (by kernel_rfl) (by kernel_rfl) (fun _ _ _ h=>h) (Or.inl ⟨by rfl,?_⟩) (by assumption) ?_
      rotate_left
      ·(intro w hSw;obtain ⟨c0w,c2w,e0w,e1w⟩:=hSw;(try dsimp only at hSw);go_simp;first | done | with_reducible rfl)
      try simp only [Act.put,List.setIfInBounds_toArray,List.set_cons_zero,List.set_cons_succ]
      refine tk 20 60 ?_
      refine r1 21 none fun K hK=>?_
      go_simp
      refine hK.out _ _ ⟨(far _ ⟨xr,0,none⟩ _ hvx).trans hHeld.1,(far _ ⟨xr,2,none⟩ _ hvx).trans hHeld.2.1,(far _ ⟨b,j*4,none⟩ _ hvl).trans hHeld.2.2.1,(far _ ⟨b,j*4+1,none⟩ _ hvl).trans hHeld.2.2.2⟩ (fun hHeld=>?_)
      clear hK K
      refine wpAnyH_done (by kernel_rfl) ?_ _
      have HW3:Hid (RfIs (w0.setCell ⟨vb,ek,none⟩ (.string (Sh.strL ed))).drew xr (.slice (some ⟨vb,0,none⟩) 12 vcap) (.slice (some ⟨b,0,none⟩) l.length cap) most (updT hv ek ed) l/\Sh.Moves (Own xr (.slice (some ⟨vb,0,none⟩) 12 vcap) (.slice (some ⟨b,0,none⟩) l.length cap)) w0 (Own xr (.slice (some ⟨vb,0,none⟩) 12 vcap) (.slice (some ⟨b,0,none⟩) l.length cap)) (w0.setCell ⟨vb,ek,none⟩ (.string (Sh.strL ed))).drew):=hid ⟨HTX.out.1.same fun _ _=>rfl,HTX.out.2.1.drew,HTX.out.2.2⟩
      have HWO:=hid (rWithout HW3.out.1 j HJL.out)
      clear HTX HIX
      generalize (w0.setCell ⟨vb,ek,none⟩ (.string (Sh.strL ed))).drew=w3 at *
      go_wp2_with fail
      refine HWO.out.mono ?_
      rintro r w2 ⟨v2,rfl,ho2,hb2⟩
      have c22:=(HW3.out.1.grown hb2).c2
      have f22:=(HW3.out.1.grown hb2).free 2
      have HE:=hid (HD.out w3 w2 v2 _ HW3.out.1 HW3.out.2 (by rfl) ho2 hb2)
      obtain ⟨A2,cp2,hv2⟩:=Sh.own_shape2 ho2
      generalize (l.take j++l.drop (j+1)).length=mm at *
      subst hv2
      clear ho2 hb2
      go_wp2
      exact HE.out
    ·have HNO:=hid hno
     have HPK:Hid (∀i (hi:i<l.length),i=j->l[i].pins≠0):=hid fun i hi e=>by subst e;exact hp0
     generalize l[j].pins=pn at *
     have hpn:0<pn:=by omega
     clear hno hrel hHH HR HL0
     go_wp2
     go_roundw
     case rel=>exact ⟨j+1,by omega,by go_num,hid ⟨rfl,fun i hi (q:i<j+1)=>by
      by_cases e:i=j
      ·exact HPK.out i hi e
      ·exact HNO.out i hi (Nat.lt_of_le_of_ne (Nat.le_of_lt_succ q) e)⟩⟩
     case measure=>simp [intOf];omega
   ·have HQ:Hid (RR (.returned (.int .i64 6)) w0):=hid (by
     rw [<- HR.out]
     refine .inr (.inl ⟨by rw [HM.out];exact HL0.out,firstE_none fun i hi=>hno i hi (by have:=HM.out;omega),rfl,HB0.out⟩))
    clear hno hrel HR HL0
    go_wp2
    exact HQ.out
end
open Go.Proofs.YtcepognpbeahhaaGreatDoor.Kc (En finds dropE useE putE finds_some finds_none one_of_key placeE placeE_of keysV firstE fFlush)
def cleanE (e:En):En:=if fFlush e then { e with dirty:=false } else e
def lF (l:List En) (j:Nat):List En:=(l.take j).map cleanE++l.drop j
def hvF (hv:Nat->Sh.Bs) (l:List En) (j:Nat):Nat->Sh.Bs:=(l.take j).foldl (fun h e=>if fFlush e then updT h e.k e.d else h) hv
theorem cleanE_k (e:En):(cleanE e).k=e.k:=by unfold cleanE;split<;>rfl
theorem lF_length (l:List En) {j:Nat} (hj:j<=l.length):(lF l j).length=l.length:=by
 unfold lF
 rw [List.length_append,List.length_map,List.length_take,List.length_drop,Nat.min_eq_left hj]
 omega
theorem lF_get (l:List En) {j:Nat} (hj:j<l.length):(lF l j)[j]?=some l[j]:=by
 unfold lF
 have h0:((l.take j).map cleanE).length=j:=by rw [List.length_map,List.length_take,Nat.min_eq_left (by omega)]
 rw [List.getElem?_append_right (by omega),h0,Nat.sub_self,List.getElem?_drop,Nat.add_zero,List.getElem?_eq_getElem hj]
theorem lF_succ (l:List En) {j:Nat} (hj:j<l.length):lF l (j+1)=(lF l j).set j (cleanE l[j]):=by
 unfold lF
 have h0:((l.take j).map cleanE).length=j:=by rw [List.length_map,List.length_take,Nat.min_eq_left (by omega)]
 rw [List.set_append_right _ _ (by omega),h0,Nat.sub_self,<- List.getElem_cons_drop hj,List.set_cons_zero,List.take_add_one,List.getElem?_eq_getElem hj,List.map_append]
 simp
theorem hvF_succ (hv:Nat->Sh.Bs) (l:List En) {j:Nat} (hj:j<l.length):hvF hv l (j+1)=if fFlush l[j] then updT (hvF hv l j) l[j].k l[j].d else hvF hv l j:=by
 unfold hvF
 rw [List.take_add_one,List.getElem?_eq_getElem hj,List.foldl_append]
 rfl
section
variable {w w' w1 w2:World} {xr most:Nat} {vs ls v2:Value} {hv hv1:Nat->Sh.Bs} {l l1:List En}
def FlI (w:World) (xr:Nat) (vs ls:Value) (most:Nat) (hv:Nat->Sh.Bs) (l:List En) (j:Nat) (wr:World):Prop:=RfIs wr xr vs ls most (hvF hv l j) (lF l j)/\Sh.Moves (Own xr vs ls) w (Own xr vs ls) wr
theorem FlI.skip {j:Nat} (h:FlI w xr vs ls most hv l j w') (hj:j<l.length) (hf:fFlush l[j]=false):FlI w xr vs ls most hv l (j+1) w':=by
 have h1:lF l (j+1)=lF l j:=by
  rw [lF_succ l hj,show cleanE l[j]=l[j] by unfold cleanE;rw [hf];rfl]
  refine List.ext_getElem? fun i=>?_
  rw [List.getElem?_set]
  by_cases q:j=i
  ·subst q
   rw [if_pos rfl,if_pos (by rw [lF_length l (Nat.le_of_lt hj)];exact hj),lF_get l hj]
  ·rw [if_neg q]
 have h2:hvF hv l (j+1)=hvF hv l j:=by rw [hvF_succ hv l hj,hf];rfl
 unfold FlI
 rw [h1,h2]
 exact h
theorem FlI.step {j vb vcap b cap:Nat} (h:FlI w xr (.slice (some ⟨vb,0,none⟩) 12 vcap) (.slice (some ⟨b,0,none⟩) l.length cap) most hv l j w') (hj:j<l.length) (hf:fFlush l[j]=true) :
  FlI w xr (.slice (some ⟨vb,0,none⟩) 12 vcap) (.slice (some ⟨b,0,none⟩) l.length cap) most hv l (j+1) ((w'.drew.setCell ⟨vb,l[j].k,none⟩ (.string (Sh.strL l[j].d))).setCell ⟨b,j*4+2,none⟩ (.bool false)):=by
 obtain ⟨h1,h2⟩:=h
 have hlen:=lF_length l (Nat.le_of_lt hj)
 have hjF:j<(lF l j).length:=by rw [hlen];exact hj
 have hget:(lF l j)[j]=l[j]:=by
  have:=lF_get l hj
  rw [List.getElem?_eq_getElem hjF] at this
  injection this
 have hk12:l[j].k<12:=h1.lows _ (by rw [<- hget];exact List.getElem_mem hjF)
 have hd1:RfIs w'.drew xr (.slice (some ⟨vb,0,none⟩) 12 vcap) (.slice (some ⟨b,0,none⟩) l.length cap) most (hvF hv l j) (lF l j):=h1.same fun _ _=>rfl
 obtain ⟨h3,h4⟩:=hd1.setText hk12 l[j].d
 have hcl:cleanE l[j]={ l[j] with dirty:=false }:=by unfold cleanE;rw [hf];rfl
 have hp:l[j].pins=0:=by
  have:=hf
  unfold fFlush at this
  simpa using (Bool.and_eq_true_iff.1 this).2
 rw [<- hlen] at h3
 have h5:=h3.setEnt (c:=2) (e:=cleanE l[j]) (u:=.bool false) hjF (by decide) (by rw [hget,cleanE_k]) (by rw [hcl];show l[j].pins<=_;omega) (by rw [hcl,hget];rfl)
 obtain ⟨ls',h6,h7⟩:=h5
 have e1:lF l (j+1)=putE (lF l j) (cleanE l[j]):=by rw [lF_succ l hj,set_putE h1.keys hjF (by rw [cleanE_k,hget])]
 have e2:hvF hv l (j+1)=updT (hvF hv l j) l[j].k l[j].d:=by rw [hvF_succ hv l hj,hf];rfl
 have hsame:RfIs ((w'.drew.setCell ⟨vb,l[j].k,none⟩ (.string (Sh.strL l[j].d))).setCell ⟨b,j*4+2,none⟩ (.bool false)) xr (.slice (some ⟨vb,0,none⟩) 12 vcap) (.slice (some ⟨b,0,none⟩) l.length cap) most (hvF hv l (j+1)) (lF l (j+1)):=by
  rw [e1,e2]
  have hr:=h6.root
  have hr2:((w'.drew.setCell ⟨vb,l[j].k,none⟩ (.string (Sh.strL l[j].d))).setCell ⟨b,j*4+2,none⟩ (.bool false)).heap[xr]?=some (.cells #[(.slice (some ⟨vb,0,none⟩) 12 vcap),.int .i64 (most:Int),(.slice (some ⟨b,0,none⟩) (lF l j).length cap)] 35 (0,0)):=(heap_setCell_other _ ⟨b,_,none⟩ _ _ (fun q=>h3.lx (by rw [q];rfl))).trans h3.root
  rw [hr2] at hr
  simp only [Option.some.injEq,Obj.cells.injEq,Array.mk.injEq,List.cons.injEq,and_true,true_and] at hr
  rw [<- hlen,hr]
  exact h6
 refine ⟨hsame,⟨h2.1.drew,h2.2⟩ |> fun (q:Sh.Moves _ w _ w'.drew)=>q.trans (h4.trans ⟨(Sh.Only.refl _ _).setCell (p:=⟨b,_,none⟩) (.inl (.inr (.inr rfl))) _,fun x hx=>.inl hx⟩)⟩
set_option maxRecDepth 20000 in
set_option maxHeartbeats 2000000 in
theorem rFlush (h:RfIs w xr vs ls most hv l):Calls Tryz.prog 34 #[.pointer (some ⟨xr,0,none⟩)] w fun r w'=>r=.returned (.tuple #[])/\FlI w xr vs ls most hv l l.length w':=by
 obtain ⟨vb,vcap,hvs⟩:=h.vform
 subst hvs
 obtain ⟨A,cap,hls⟩:=Sh.own_shape2 h.rowL
 subst hls
 have hlen:l.length<=1024:=h.len
 have HI0:Hid (FlI w xr (.slice (some ⟨vb,0,none⟩) 12 vcap) (.slice A l.length cap) most hv l 0 w):=hid ⟨by show RfIs w xr _ _ most hv (lF l 0);rw [show lF l 0=l by unfold lF;simp];exact h,Sh.Moves.refl _ _⟩
 clear h
 generalize hm:l.length=m at *
 have HM:=hid hm
 clear hm
 go_enter Tryz.func34,Tryz.ntmps34
 go_wp2
 go_loopw [2] (fun s wr=>∃j:Nat,j<=m/\s=.int .i64 j/\Hid (FlI w xr (.slice (some ⟨vb,0,none⟩) 12 vcap) (.slice A m cap) most hv l j wr)) (fun s _=>m-(intOf s).toNat)
 case atStart=>exact ⟨0,Nat.zero_le _,rfl,HI0⟩
 case round =>
  obtain ⟨j,hj,rfl,hrel⟩:=hrel
  have hHH:=hrel.out.1
  have c2:=hHH.c2
  by_cases hlt:j<m
  ·have hjl:j<l.length:=by rw [HM.out];exact hlt
   have hlF:(lF l j).length=m:=by rw [lF_length l (Nat.le_of_lt hjl),HM.out]
   have hjF:j<(lF l j).length:=by rw [hlF];exact hlt
   have hget:(lF l j)[j]=l[j]:=by
    have:=lF_get l hjl
    rw [List.getElem?_eq_getElem hjF] at this
    injection this
   obtain ⟨b,cp,hbc⟩:=hHH.lform (by omega)
   injection hbc with hA _ hcp
   subst hA
   subst hcp
   rw [<- hlF] at hHH
   obtain ⟨e0,e1,e2,e3⟩:=hHH.ent hjF
   rw [hget] at e0 e1 e2 e3
   have hpins:=hHH.pins _ (List.getElem_mem hjF)
   have hk12:=hHH.lows _ (List.getElem_mem hjF)
   rw [hget] at hpins hk12
   have c0:=hHH.c0
   have cv:=hHH.text hk12
   have fv:=hHH.rowV.frozenAt l[j].k
   have fb:=hHH.rowL.frozenAt (j*4+2)
   have hvx:vb≠xr:=fun q=>hHH.vx (by rw [<- q];rfl)
   have hvl:vb≠b:=fun q=>hHH.vl vb rfl (by rw [<- q];rfl)
   have HSK:Hid (fFlush l[j]=false->FlI w xr (.slice (some ⟨vb,0,none⟩) 12 vcap) (.slice (some ⟨b,0,none⟩) m cap) most hv l (j+1) wr):=hid fun hf=>hrel.out.skip hjl hf
   have HST:Hid (fFlush l[j]=true->FlI w xr (.slice (some ⟨vb,0,none⟩) 12 vcap) (.slice (some ⟨b,0,none⟩) m cap) most hv l (j+1) ((wr.drew.setCell ⟨vb,l[j].k,none⟩ (.string (Sh.strL l[j].d))).setCell ⟨b,j*4+2,none⟩ (.bool false))):=hid fun hf=>by
    have h1:=hrel.out
    rw [<- HM.out] at h1 ⊢
    exact h1.step hjl hf
   unfold fFlush at HSK HST
   clear hHH hrel hlF hjF hget
   generalize l[j].dirty=dt at *
   generalize l[j].pins=pn at *
   generalize l[j].k=ek at *
   generalize l[j].d=ed at *
   cases dt
   ·have HG:=hid (HSK.out rfl)
    clear HSK HST
    go_wp2
    go_roundw
    case rel=>exact ⟨j+1,by omega,by go_num,HG⟩
    case measure=>simp [intOf];omega
   ·by_cases hp0:pn=0
    ·subst hp0
     have HG:=hid (HST.out rfl)
     have hkI:(ek:Int)<12:=by omega
     clear HSK HST
     go_wp2_with fail
     have far:∀(W:World) (a:Addr) (v:Value),vb≠a.block->(W.setCell ⟨vb,ek,none⟩ v).cell? a=W.cell? a:=fun W a v h=>World.cell?_setCell_far _ _ _ _ h
     have e2f:=(far wr.drew ⟨b,j*4+2,none⟩ (.string (Sh.strL ed)) hvl).trans e2
     have c2f:=(far wr.drew ⟨xr,2,none⟩ (.string (Sh.strL ed)) hvx).trans c2
     refine wp_region_held_drew (S:=fun W:World=>W.cell? ⟨xr,0,none⟩=some (.slice (some ⟨vb,0,none⟩) 12 vcap)/\W.cell? ⟨xr,2,none⟩=some (.slice (some ⟨b,0,none⟩) m cap)/\W.cell? ⟨b,j*4,none⟩=some (.int .i64 (ek:Int))/\W.cell? ⟨b,j*4+1,none⟩=some (.string (Sh.strL ed))) (by kernel_rfl) ⟨c0,c2,e0,e1⟩ (fun hHeld=>?_)
     refine tk 0 31 ?_
     refine tk 1 32 ?_
     refine tk 2 33 ?_
     refine wpAnyH_take (i:=3) (oi:=⟨some 34,_,_,_,_,_⟩) (v:=?_) rfl (by kernel_rfl) (by kernel_rfl) (by kernel_rfl) (fun _ _ _ h=>h) (Or.inl ⟨by rfl,?_⟩) (by assumption) ?_
     rotate_left
     ·(intro w hSw;obtain ⟨c0w,c2w,e0w,e1w⟩:=hSw;(try dsimp only at hSw);go_simp;first | done | with_reducible rfl)
     try simp only [Act.put,List.setIfInBounds_toArray,List.set_cons_zero,List.set_cons_succ]
     refine tk 4 35 ?_
     refine tk 5 36 ?_
     refine tk 6 37 ?_
     refine wpAnyH_take (i:=7) (oi:=⟨some 38,_,_,_,_,_⟩) (v:=?_) rfl (by kernel_rfl) (by kernel_rfl) (by kernel_rfl) (fun _ _ _ h=>h) (Or.inl ⟨by rfl,?_⟩) (by assumption) ?_
     rotate_left
     ·(intro w hSw;obtain ⟨c0w,c2w,e0w,e1w⟩:=hSw;(try dsimp only at hSw);go_simp;first | done | with_reducible rfl)
     try simp only [Act.put,List.setIfInBounds_toArray,List.set_cons_zero,List.set_cons_succ]
     refine tk 8 39 ?_
     refine tk 9 40 ?_
     refine tk 10 41 ?_
     refine wpAnyH_take (i:=11) (oi:=⟨some 42,_,_,_,_,_⟩) (v:=?_) rfl (by kernel_rfl) (by kernel_rfl) (by kernel_rfl) (fun _ _ _ h=>h) (Or.inl ⟨by rfl,?_⟩) (by assumption) ?_
     rotate_left
     ·(intro w hSw;obtain ⟨c0w,c2w,e0w,e1w⟩:=hSw;(try dsimp only at hSw);go_simp;first | done | with_reducible rfl)
     try simp only [Act.put,List.setIfInBounds_toArray,List.set_cons_zero,List.set_cons_succ]
     refine tk 12 43 ?_
     refine tk 13 44 ?_
     refine tk 14 45 ?_
     refine wpAnyH_take (i:=15) (oi:=⟨some 46,_,_,_,_,_⟩) (v:=?_) rfl (by kernel_rfl) (by kernel_rfl) (by kernel_rfl) (fun _ _ _ h=>h) (Or.inl ⟨by rfl,?_⟩) (by assumption) ?_
     rotate_left
     ·(intro w hSw;obtain ⟨c0w,c2w,e0w,e1w⟩:=hSw;(try dsimp only at hSw);go_simp;first | done | with_reducible rfl)
     try simp only [Act.put,List.setIfInBounds_toArray,List.set_cons_zero,List.set_cons_succ]
     refine tk 16 47 ?_
     refine tk 17 48 ?_
     refine tk 18 49 ?_
     refine wpAnyH_take (i:=19) (oi:=⟨some 50,_,_,_,_,_⟩) (v:=?_) rfl (by kernel_rfl) (by kernel_rfl) (by kernel_rfl) (fun _ _ _ h=>h) (Or.inl ⟨by rfl,?_⟩) (by assumption) ?_
     rotate_left
     ·(intro w hSw;obtain ⟨c0w,c2w,e0w,e1w⟩:=hSw;(try dsimp only at hSw);go_simp;first | done | with_reducible rfl)
     try simp only [Act.put,List.setIfInBounds_toArray,List.set_cons_zero,List.set_cons_succ]
     refine tk 20 51 ?_
     refine r1 21 none fun K hK=>?_
     go_simp
     refine hK.out _ _ ⟨(far _ ⟨xr,0,none⟩ _ hvx).trans hHeld.1,(far _ ⟨xr,2,none⟩ _ hvx).trans hHeld.2.1,(far _ ⟨b,j*4,none⟩ _ hvl).trans hHeld.2.2.1,(far _ ⟨b,j*4+1,none⟩ _ hvl).trans hHeld.2.2.2⟩ (fun hHeld=>?_)
     clear hK K
     refine wpAnyH_done (by kernel_rfl) ?_ _
     go_wp2
     go_roundw
     case rel=>exact ⟨j+1,by omega,by go_num,HG⟩
     case measure=>simp [intOf];omega
    ·have HG:=hid (HSK.out (by simpa using hp0))
     have hp1:((pn:Int) == 0)=false:=by rw [beq_eq_false_iff_ne];omega
     clear HSK HST
     go_wp2
     go_roundw
     case rel=>exact ⟨j+1,by omega,by go_num,HG⟩
     case measure=>simp [intOf];omega
  ·obtain rfl:j=m:=by omega
   clear hHH
   go_wp2
   refine bodyPost_end (results_none rfl _ _ _) rfl ?_
   exact ⟨rfl,hrel.out⟩
end
open Go.Proofs.YtcepognpbeahhaaGreatDoor.Kc (En finds dropE useE putE finds_some finds_none one_of_key placeE placeE_of keysV firstE)
section
variable {w w' w1 w2:World} {xr most:Nat} {vs ls v2:Value} {hv hv1:Nat->Sh.Bs} {l l1:List En}
def RmR (most:Nat) (hv:Nat->Sh.Bs) (l:List En) (hv':Nat->Sh.Bs) (l':List En):Prop :=
 (l.length<most/\hv'=hv/\l'=l)\/(most<=l.length/\∃e,l[firstE l]?=some e/\hv'=(if e.dirty then updT hv e.k e.d else hv)/\l'=dropE l e.k)
theorem RmR.len (h:RmR most hv l hv1 l1) (hn:(l.map En.k).Nodup) (hm:most<=1024) (hl:l.length<=1024):l1.length+1<=1024:=by
 rcases h with ⟨h1,_,rfl⟩ | ⟨_,e,h2,_,rfl⟩
 ·omega
 ·have:=Go.Proofs.YtcepognpbeahhaaGreatDoor.Kc.len_dropE hn (List.mem_of_getElem? h2)
  omega
theorem RoomTo.cases {r:Ending} (h:RfIs w xr vs ls most hv l) (k:RoomTo w xr vs ls most hv l r w') :
  (most<=l.length/\firstE l=l.length/\r=.returned (.int .i64 6)/\Below w.heap.size w w')\/∃hv' l',RmR most hv l hv' l'/\r=.returned (.int .i64 0)/\RfTo w xr vs ls most hv' l' w':=by
 rcases k with ⟨h1,rfl,h2⟩ | h1 | ⟨h1,e,h2,rfl,h3⟩
 ·exact .inr ⟨hv,l,.inl ⟨h1,rfl,rfl⟩,rfl,ls,h.grown h2,Sh.Only.of_below h2 fun b h3 h4=>absurd h4 (by omega),fun b hb=>.inl hb⟩
 ·exact .inl h1
 ·exact .inr ⟨_,_,.inr ⟨h1,e,h2,rfl,rfl⟩,rfl,h3⟩
theorem RfTo.trans {ls1:Value} (hm:Sh.Moves (Own xr vs ls) w (Own xr vs ls1) w1) (k:RfTo w1 xr vs ls1 most hv l w'):RfTo w xr vs ls most hv l w':=by
 obtain ⟨ls',h1,h2⟩:=k
 exact ⟨ls',h1,hm.trans h2⟩
theorem RfTo.grown (hb:Below w.heap.size w w1) (h:RfTo w1 xr vs ls most hv l w'):RfTo w xr vs ls most hv l w':=by
 obtain ⟨ls',h1,h2⟩:=h
 exact ⟨ls',h1,(Sh.Only.of_below hb fun b h3 h4=>absurd h4 (by omega)).trans h2.1 (fun b hb2=>.inl hb2),fun b hb2=>(h2.2 b hb2).imp id fun q=>Nat.le_trans hb.size q⟩
theorem four {W:World} {B o:Nat} {a b c d:Value} (f0:W.cell? ⟨B,o,none⟩=some a) (f1:W.cell? ⟨B,o+1,none⟩=some b) (f2:W.cell? ⟨B,o+2,none⟩=some c) (f3:W.cell? ⟨B,o+3,none⟩=some d) :
  ∀j v,[a,b,c,d][j]?=some v->W.cell? ((⟨B,o,none⟩:Addr).add j)=some v:=by
 intro j v hv
 rw [U.add_plain]
 match j with
 | 0=>injection hv with hv;rw [<- hv];exact f0
 | 1=>injection hv with hv;rw [<- hv];exact f1
 | 2=>injection hv with hv;rw [<- hv];exact f2
 | 3=>injection hv with hv;rw [<- hv];exact f3
 | j+4=>simp at hv
def GetTo (w:World) (xr:Nat) (vs ls:Value) (most:Nat) (hv:Nat->Sh.Bs) (l:List En) (n:Int) (p:Nat) (r:Ending) (w':World):Prop :=
 (¬(0<=n/\n<12)/\r=.returned (.tuple #[.string ⟨#[]⟩,.int .i64 1])/\w=w') \/
 (∃e,finds l n=some e/\r=.returned (.tuple #[.string (Sh.strL e.d),.int .i64 0])/\RfTo w xr vs ls most hv (useE l e) w') \/
 (∃k:Nat,k<12/\n=(k:Int)/\finds l n=none/\most<=l.length/\firstE l=l.length/\r=.returned (.tuple #[.string ⟨#[]⟩,.int .i64 6])/\Below w.heap.size w w') \/
 (∃(k:Nat) (hv':Nat->Sh.Bs) (l':List En),k<12/\n=(k:Int)/\finds l n=none/\RmR most hv l hv' l'/\r=.returned (.tuple #[.string (Sh.strL (hv k)),.int .i64 0])/\RfTo w xr vs ls most hv' (useE l' ⟨k,p,hv k,false,0⟩) w')
set_option maxRecDepth 20000 in
set_option maxHeartbeats 2000000 in
theorem rGet (h:RfIs w xr vs ls most hv l) (hmost:most<=1024) (n:Int) (p:Nat):Calls Tryz.prog 31 #[.pointer (some ⟨xr,0,none⟩),.int .i64 n] w (GetTo w xr vs ls most hv l n p):=by
 have HH:=hid h
 obtain ⟨vb,vcap,hvs⟩:=h.vform
 subst hvs
 generalize hR:GetTo w xr (.slice (some ⟨vb,0,none⟩) 12 vcap) ls most hv l n p=RR at *
 have HR:=hid hR
 have c0:=h.c0
 clear hR
 by_cases hn0:n<0
 ·have HG:Hid (RR (.returned (.tuple #[.string ⟨#[]⟩,.int .i64 1])) w):=hid (by rw [<- HR.out];exact .inl ⟨by omega,rfl,rfl⟩)
  clear h HH HR
  go_enter Tryz.func31,Tryz.ntmps31
  go_wp2
  exact HG.out
 by_cases hn1:12<=n
 ·have HG:Hid (RR (.returned (.tuple #[.string ⟨#[]⟩,.int .i64 1])) w):=hid (by rw [<- HR.out];exact .inl ⟨by omega,rfl,rfl⟩)
  clear h HH HR
  go_enter Tryz.func31,Tryz.ntmps31
  go_wp2
  exact HG.out
 obtain ⟨k,rfl⟩:∃k:Nat,n=(k:Int):=⟨n.toNat,by omega⟩
 have hk:k<12:=by omega
 have HAT:=hid (rAt h (k:Int))
 rcases hf:finds l (k:Int) with _ | e0
 ·have hat:atR l (k:Int)=-1:=by unfold atR;rw [hf]
  rw [hat] at HAT
  have cv:=h.text hk
  have HRM:=hid (rRoom h)
  have HF:=hid hf
  have hkI:(k:Int)<12:=by omega
  clear hat hf h
  go_enter Tryz.func31,Tryz.ntmps31
  go_wp2_with fail
  refine HAT.out.mono ?_
  rintro r w2 ⟨rfl,rfl⟩
  clear HAT
  go_wp2_with fail
  refine HRM.out.mono ?_
  intro r w2 hr
  rcases RoomTo.cases HH.out hr with ⟨h1,h2,rfl,h3⟩ | ⟨hv',l',h1,rfl,ls1,h2,h3⟩
  ·have HG:Hid (RR (.returned (.tuple #[.string ⟨#[]⟩,.int .i64 6])) w2):=hid (by rw [<- HR.out];exact .inr (.inr (.inl ⟨k,hk,rfl,HF.out,h1,h2,rfl,h3⟩)))
   clear h1 h2 h3 hr HR HH
   go_wp2
   exact HG.out
  ·have HU:=hid (rUse h2 ⟨k,p,hv k,false,0⟩ hk (Nat.zero_le _) (Nat.le_trans (Nat.add_le_add_right (dropE_len _ _) 1) (h1.len HH.out.keys hmost HH.out.len)))
   have HG:Hid (∀w3,RfTo w2 xr (.slice (some ⟨vb,0,none⟩) 12 vcap) ls1 most hv' (useE l' ⟨k,p,hv k,false,0⟩) w3->RR (.returned (.tuple #[.string (Sh.strL (hv k)),.int .i64 0])) w3):=hid fun w3 q=>by
    rw [<- HR.out]
    exact .inr (.inr (.inr ⟨k,hv',l',hk,rfl,HF.out,h1,rfl,q.trans h3⟩))
   clear h1 h2 h3 hr HR HH hk HRM
   unfold entV at HU
   go_wp2_with fail
   refine HU.out.mono ?_
   rintro r w3 ⟨rfl,h5⟩
   have HG2:=hid (HG.out w3 h5)
   clear h5 HG HU
   go_wp2
   exact HG2.out
 ·obtain ⟨he0,hek⟩:=finds_some hf
  obtain ⟨hi1,hi2⟩:=placeE_of h.keys he0
  have hat:atR l (k:Int)=(placeE l e0.k:Int):=by unfold atR;rw [hf]
  rw [hat] at HAT
  obtain ⟨b,cp,hbc⟩:=h.lform (by omega)
  subst hbc
  have hlen:l.length<=1024:=h.len
  have hd:l[placeE l e0.k]=e0:=by
   rw [List.getElem?_eq_getElem hi1] at hi2
   injection hi2
  obtain ⟨f0,f1,f2,f3⟩:=h.ent hi1
  rw [hd] at f0 f1 f2 f3
  have c2:=h.c2
  have HF:=hid hf
  have hil:(placeE l e0.k:Int)<(l.length:Int):=by omega
  have hpi:placeE l e0.k<=1024:=by omega
  have hp0:=h.pins e0 he0
  have hl0:=h.lows e0 he0
  have hdl:(dropE l e0.k).length+1<=1024:=by have:=Go.Proofs.YtcepognpbeahhaaGreatDoor.Kc.len_dropE h.keys he0;omega
  have hkI:(k:Int)<12:=by omega
  have HG:Hid (∀w3,RfTo w xr (.slice (some ⟨vb,0,none⟩) 12 vcap) (.slice (some ⟨b,0,none⟩) l.length cp) most hv (useE l e0) w3->RR (.returned (.tuple #[.string (Sh.strL e0.d),.int .i64 0])) w3):=hid fun w3 q=>by
   rw [<- HR.out]
   exact .inr (.inl ⟨e0,HF.out,rfl,q⟩)
  clear hat hf hi1 hi2 hd hek he0 h HR
  generalize placeE l e0.k=pl at *
  generalize hm:l.length=m at *
  have HW1:Hid (((w.alloc (.cells #[.int .i64 0,.string ⟨#[]⟩,.bool false,.int .i64 0] 129)).setRow w.heap.size #[.int .i64 (e0.k:Int),.string (Sh.strL e0.d),.bool e0.dirty,.int .i64 (e0.pins:Int)]).heap[w.heap.size]?=some (.cells #[.int .i64 (e0.k:Int),.string (Sh.strL e0.d),.bool e0.dirty,.int .i64 (e0.pins:Int)] 129 (0,0))/\Below w.heap.size w ((w.alloc (.cells #[.int .i64 0,.string ⟨#[]⟩,.bool false,.int .i64 0] 129)).setRow w.heap.size #[.int .i64 (e0.k:Int),.string (Sh.strL e0.d),.bool e0.dirty,.int .i64 (e0.pins:Int)])):=hid ⟨setRow_heap _ w.heap.size _ _ _ _ (heap_alloc_new w _),below_setRow ((Below.refl _ w).alloc (Nat.le_refl _) _) (Nat.le_refl _) _⟩
  go_enter Tryz.func31,Tryz.ntmps31
  go_wp2_with fail
  refine HAT.out.mono ?_
  rintro r w2 ⟨rfl,rfl⟩
  clear HAT
  go_wp2_with (first
   | (refine Go.Proofs.YtcepognpbeahhaaGreatDoor.Kc.wpList_load_any rfl 129 (.tmp 49) rfl ⟨b,pl*4,none⟩ rfl [.int .i64 (e0.k:Int),.string (Sh.strL e0.d),.bool e0.dirty,.int .i64 (e0.pins:Int)] _ (four f0 f1 f2 f3) Tryz.underlying129 rfl (by kernel_rfl) ?_)
   | (refine wpList_store_row rfl 129 (.tmp 9) (.tmp 50) rfl w.heap.size #[.int .i64 (e0.k:Int),.string (Sh.strL e0.d),.bool e0.dirty,.int .i64 (e0.pins:Int)] rfl rfl 129 _ (heap_alloc_new w _) (by kernel_rfl) rfl (by simp [Value.oneCell']) ?_)
   | (refine Go.Proofs.YtcepognpbeahhaaGreatDoor.Kc.wpList_load_any rfl 129 (.tmp 9) rfl ⟨w.heap.size,0,none⟩ rfl [.int .i64 (e0.k:Int),.string (Sh.strL e0.d),.bool e0.dirty,.int .i64 (e0.pins:Int)] _ (fun j v hv=>by rw [U.add_plain,cell_of_row _ _ _ _ _ _ HW1.out.1];simpa using hv) Tryz.underlying129 rfl (by kernel_rfl) ?_))
  generalize (w.alloc (.cells #[.int .i64 0,.string ⟨#[]⟩,.bool false,.int .i64 0] 129)).setRow w.heap.size #[.int .i64 (e0.k:Int),.string (Sh.strL e0.d),.bool e0.dirty,.int .i64 (e0.pins:Int)]=w1 at *
  have HU:=hid (rUse (HH.out.grown HW1.out.2) e0 hl0 hp0 hdl)
  have HW2:Hid (∀w3,RfTo w1 xr (.slice (some ⟨vb,0,none⟩) 12 vcap) (.slice (some ⟨b,0,none⟩) m cp) most hv (useE l e0) w3->w3.cell? ⟨w.heap.size,1,none⟩=some (.string (Sh.strL e0.d))/\RR (.returned (.tuple #[.string (Sh.strL e0.d),.int .i64 0])) w3):=hid fun w3 q=>by
   refine ⟨?_,HG.out w3 (RfTo.grown HW1.out.2 q)⟩
   obtain ⟨ls',_,q2⟩:=q
   have h1:w1.cell? ⟨w.heap.size,1,none⟩=some (.string (Sh.strL e0.d)):=cell_of_row _ _ 1 _ _ _ HW1.out.1
   exact (q2.1.cell (p:=⟨w.heap.size,1,none⟩) (lt_of_block HW1.out.1) (fun q3=>Nat.lt_irrefl _ (HH.out.lt q3))).trans h1
  clear HW1 HG HH
  unfold entV at HU
  refine HU.out.mono ?_
  rintro r w3 ⟨rfl,h5⟩
  obtain ⟨g1,g2⟩:=HW2.out w3 h5
  have HG2:=hid g2
  clear h5 g2 HU HW2
  go_wp2
  exact HG2.out
end
open Go.Proofs.YtcepognpbeahhaaGreatDoor.Kc (En finds dropE useE putE finds_some finds_none one_of_key placeE placeE_of keysV firstE)
section
variable {w w' w1 w2:World} {xr most:Nat} {vs ls v2:Value} {hv hv1:Nat->Sh.Bs} {l l1:List En}
def PutTo (w:World) (xr:Nat) (vs ls:Value) (most:Nat) (hv:Nat->Sh.Bs) (l:List En) (n:Int) (bs:Sh.Bs) (p:Nat) (r:Ending) (w':World):Prop :=
 (¬((0<=n/\n<12)/\bs.length=128)/\r=.returned (.int .i64 1)/\w=w') \/
 (bs.length=128/\∃e,finds l n=some e/\r=.returned (.int .i64 0)/\RfTo w xr vs ls most hv (useE l { e with d:=bs,dirty:=true }) w') \/
 (bs.length=128/\∃k:Nat,k<12/\n=(k:Int)/\finds l n=none/\most<=l.length/\firstE l=l.length/\r=.returned (.int .i64 6)/\Below w.heap.size w w') \/
 (bs.length=128/\∃(k:Nat) (hv':Nat->Sh.Bs) (l':List En),k<12/\n=(k:Int)/\finds l n=none/\RmR most hv l hv' l'/\r=.returned (.int .i64 0)/\RfTo w xr vs ls most hv' (useE l' ⟨k,p,bs,true,0⟩) w')
theorem put_end {ls1 a b c d u1 u2:Value} (hm:Sh.Moves (Own xr vs ls) w (Own xr vs ls1) w2) (h2:RfIs w2 xr vs ls1 most hv1 l1) (hF:w2.heap[w.heap.size]?=some (.cells #[a,b,c,d] 129 (0,0))) (hno:¬Own xr vs ls1 w.heap.size) :
  RfIs ((w2.setCell ⟨w.heap.size,1,none⟩ u1).setCell ⟨w.heap.size,2,none⟩ u2) xr vs ls1 most hv1 l1/\Sh.Moves (Own xr vs ls) w (Own xr vs ls1) ((w2.setCell ⟨w.heap.size,1,none⟩ u1).setCell ⟨w.heap.size,2,none⟩ u2)/\((w2.setCell ⟨w.heap.size,1,none⟩ u1).setCell ⟨w.heap.size,2,none⟩ u2).heap[w.heap.size]?=some (.cells #[a,u1,u2,d] 129 (0,0)):=by
 refine ⟨h2.same fun b hb=>?_,⟨(hm.1.setCell (p:=⟨w.heap.size,1,none⟩) (.inr (Nat.le_refl _)) _).setCell (p:=⟨w.heap.size,2,none⟩) (.inr (Nat.le_refl _)) _,hm.2⟩,?_⟩
 ·have hne:b≠w.heap.size:=fun q=>hno (by rw [<- q];exact hb)
  exact (heap_setCell_other _ ⟨w.heap.size,2,none⟩ _ _ hne).trans (heap_setCell_other _ ⟨w.heap.size,1,none⟩ _ _ hne)
 ·have h1:=heap_setCell_same w2 w.heap.size 1 _ _ u1 hF
  rw [heap_setCell_same _ w.heap.size 2 _ _ u2 h1]
  rfl
set_option maxRecDepth 20000 in
set_option maxHeartbeats 2000000 in
theorem rPut (h:RfIs w xr vs ls most hv l) (hmost:most<=1024) (n:Int) (bs:Sh.Bs) (p:Nat):Calls Tryz.prog 32 #[.pointer (some ⟨xr,0,none⟩),.int .i64 n,.string (Sh.strL bs)] w (PutTo w xr vs ls most hv l n bs p):=by
  have HH:=hid h
  obtain ⟨vb,vcap,hvs⟩:=h.vform
  subst hvs
  generalize hR:PutTo w xr (.slice (some ⟨vb,0,none⟩) 12 vcap) ls most hv l n bs p=RR at *
  have HR:=hid hR
  have c0:=h.c0
  have hsz:(Sh.strL bs).size=bs.length:=Sh.strL_size bs
  clear hR
  by_cases hbad:¬((0<=n/\n<12)/\bs.length=128)
  · have HG:Hid (RR (.returned (.int .i64 1)) w):=hid (by rw [<- HR.out];exact .inl ⟨hbad,rfl,rfl⟩)
    clear h HH HR
    by_cases hn0:n<0
    · clear hbad
      go_enter Tryz.func32,Tryz.ntmps32
      go_wp2
      exact HG.out
    by_cases hn1:12<=n
    · clear hbad
      go_enter Tryz.func32,Tryz.ntmps32
      go_wp2
      exact HG.out
    have hb1:bs.length≠128:=fun q=>hbad ⟨⟨by omega,by omega⟩,q⟩
    have hq:(((Sh.strL bs).size:Int) == 128)=false:=by rw [beq_eq_false_iff_ne,hsz];omega
    clear hbad
    go_enter Tryz.func32,Tryz.ntmps32
    go_wp2
    exact HG.out
  obtain ⟨hn,hb128⟩:=Classical.not_not.1 hbad
  clear hbad
  obtain ⟨k,rfl⟩:∃k:Nat,n=(k:Int):=⟨n.toNat,by omega⟩
  have hk:k<12:=by omega
  have hq:(((Sh.strL bs).size:Int) == 128)=true:=by rw [hsz,hb128];rfl
  have hkI:(k:Int)<12:=by omega
  have HB:=hid hb128
  have HW1:Hid (((w.alloc (.cells #[.int .i64 0,.string ⟨#[]⟩,.bool false,.int .i64 0] 129)).setRow w.heap.size #[.int .i64 (k:Int),.string ⟨#[]⟩,.bool false,.int .i64 0]).heap[w.heap.size]?=some (.cells #[.int .i64 (k:Int),.string ⟨#[]⟩,.bool false,.int .i64 0] 129 (0,0))/\Below w.heap.size w ((w.alloc (.cells #[.int .i64 0,.string ⟨#[]⟩,.bool false,.int .i64 0] 129)).setRow w.heap.size #[.int .i64 (k:Int),.string ⟨#[]⟩,.bool false,.int .i64 0])):=hid ⟨setRow_heap _ w.heap.size _ _ _ _ (heap_alloc_new w _),below_setRow ((Below.refl _ w).alloc (Nat.le_refl _) _) (Nat.le_refl _) _⟩
  go_enter Tryz.func32,Tryz.ntmps32
  clear h
  go_wp2_with (refine wpList_store_row rfl 129 (.tmp 7) (.tmp 27) rfl w.heap.size #[.int .i64 (k:Int),.string ⟨#[]⟩,.bool false,.int .i64 0] rfl rfl 129 _ (heap_alloc_new w _) (by kernel_rfl) rfl (by simp [Value.oneCell']) ?_)
  generalize (w.alloc (.cells #[.int .i64 0,.string ⟨#[]⟩,.bool false,.int .i64 0] 129)).setRow w.heap.size #[.int .i64 (k:Int),.string ⟨#[]⟩,.bool false,.int .i64 0]=w1 at *
  have HI:=hid (HH.out.grown HW1.out.2)
  have HAT:=hid (rAt HI.out (k:Int))
  have HMV:Hid (Sh.Moves (Own xr (.slice (some ⟨vb,0,none⟩) 12 vcap) ls) w (Own xr (.slice (some ⟨vb,0,none⟩) 12 vcap) ls) w1):=hid ⟨Sh.Only.of_below HW1.out.2 fun b h3 h4=>absurd h4 (by omega),fun b hb=>.inl hb⟩
  rcases hf:finds l (k:Int) with _ | e0
  · have hat:atR l (k:Int)=-1:=by unfold atR;rw [hf]
    rw [hat] at HAT
    have HRM:=hid (rRoom HI.out)
    have HF:=hid hf
    clear hat hf
    refine HAT.out.mono ?_
    rintro r w2 ⟨rfl,rfl⟩
    clear HAT
    go_wp2_with fail
    refine HRM.out.mono ?_
    intro r w2 hr
    rcases RoomTo.cases HI.out hr with ⟨h1,h2,rfl,h3⟩ | ⟨hv',l',h1,rfl,ls1,h2,h3⟩
    · have HG:Hid (RR (.returned (.int .i64 6)) w2):=hid (by rw [<- HR.out];exact .inr (.inr (.inl ⟨HB.out,k,hk,rfl,HF.out,h1,h2,rfl,HW1.out.2.trans (h3.mono HW1.out.2.size)⟩)))
      clear h1 h2 h3 hr HR HH
      go_wp2
      exact HG.out
    · have hno:¬Own xr (.slice (some ⟨vb,0,none⟩) 12 vcap) ls1 w.heap.size:=fun q=>(h3.2 _ q).elim (fun q2=>Nat.lt_irrefl _ (HH.out.lt q2)) (fun q2=>absurd (lt_of_block HW1.out.1) (by omega))
      have hF2:=(h3.1.block w.heap.size (lt_of_block HW1.out.1) (fun q2=>Nat.lt_irrefl _ (HH.out.lt q2))).trans HW1.out.1
      have HPE:=hid (put_end (u1:=.string (Sh.strL bs)) (u2:=.bool true) (HMV.out.trans h3) h2 hF2 hno)
      have HLE:Hid ((dropE l' k).length+1<=1024):=hid (Nat.le_trans (Nat.add_le_add_right (dropE_len _ _) 1) (h1.len HH.out.keys hmost HH.out.len))
      have HG:Hid (∀w3 w4,Sh.Moves (Own xr (.slice (some ⟨vb,0,none⟩) 12 vcap) ls) w (Own xr (.slice (some ⟨vb,0,none⟩) 12 vcap) ls1) w3->RfTo w3 xr (.slice (some ⟨vb,0,none⟩) 12 vcap) ls1 most hv' (useE l' ⟨k,p,bs,true,0⟩) w4->RR (.returned (.int .i64 0)) w4):=hid fun w3 w4 q1 q=>by
        rw [<- HR.out]
        exact .inr (.inr (.inr ⟨HB.out,k,hv',l',hk,rfl,HF.out,h1,rfl,q.trans q1⟩))
      have k1:w2.cell? ⟨w.heap.size,1,none⟩=some (.string ⟨#[]⟩):=cell_of_row _ _ 1 _ _ _ hF2
      have k2:w2.cell? ⟨w.heap.size,2,none⟩=some (.bool false):=cell_of_row _ _ 2 _ _ _ hF2
      have k3:w2.frozen? ⟨w.heap.size,1,none⟩=false:=frozen_of_row _ _ _ _ _ hF2
      have k4:w2.frozen? ⟨w.heap.size,2,none⟩=false:=frozen_of_row _ _ _ _ _ hF2
      clear h1 h2 h3 hr HR HRM hno hF2 HI HW1
      go_wp2_with (refine Go.Proofs.YtcepognpbeahhaaGreatDoor.Kc.wpList_load_any rfl 129 (.tmp 7) rfl ⟨w.heap.size,0,none⟩ rfl [.int .i64 (k:Int),.string (Sh.strL bs),.bool true,.int .i64 0] _ (fun j v hv=>by rw [U.add_plain,cell_of_row _ _ _ _ _ _ HPE.out.2.2];simpa using hv) Tryz.underlying129 rfl (by kernel_rfl) ?_)
      generalize ((w2.setCell ⟨w.heap.size,1,none⟩ (.string (Sh.strL bs))).setCell ⟨w.heap.size,2,none⟩ (.bool true))=w3 at *
      have HU:=hid (rUse HPE.out.1 ⟨k,p,bs,true,0⟩ hk (Nat.zero_le _) HLE.out)
      unfold entV at HU
      refine HU.out.mono ?_
      rintro r w4 ⟨rfl,h5⟩
      have HG2:=hid (HG.out _ w4 HPE.out.2.1 h5)
      clear h5 HG HU HPE
      go_wp2
      exact HG2.out
  · obtain ⟨he0,hek⟩:=finds_some hf
    have h:=HI.out
    obtain ⟨hi1,hi2⟩:=placeE_of h.keys he0
    have hat:atR l (k:Int)=(placeE l e0.k:Int):=by unfold atR;rw [hf]
    rw [hat] at HAT
    obtain ⟨b,cp,hbc⟩:=h.lform (by omega)
    subst hbc
    have hlen:l.length<=1024:=h.len
    have hd:l[placeE l e0.k]=e0:=by
      rw [List.getElem?_eq_getElem hi1] at hi2
      injection hi2
    obtain ⟨f0,f1,f2,f3⟩:=h.ent hi1
    rw [hd] at f0 f1 f2 f3
    have c2:=h.c2
    have HF:=hid hf
    have hil:(placeE l e0.k:Int)<(l.length:Int):=by omega
    have hpi:placeE l e0.k<=1024:=by omega
    have hp0:=h.pins e0 he0
    have hl0:=h.lows e0 he0
    have hdl:(dropE l e0.k).length+1<=1024:=by have:=Go.Proofs.YtcepognpbeahhaaGreatDoor.Kc.len_dropE h.keys he0;omega
    have HG:Hid (∀w3 w4,Sh.Moves (Own xr (.slice (some ⟨vb,0,none⟩) 12 vcap) (.slice (some ⟨b,0,none⟩) l.length cp)) w (Own xr (.slice (some ⟨vb,0,none⟩) 12 vcap) (.slice (some ⟨b,0,none⟩) l.length cp)) w3->RfTo w3 xr (.slice (some ⟨vb,0,none⟩) 12 vcap) (.slice (some ⟨b,0,none⟩) l.length cp) most hv (useE l { e0 with d:=bs,dirty:=true }) w4->RR (.returned (.int .i64 0)) w4):=hid fun w3 w4 q1 q=>by
      rw [<- HR.out]
      exact .inr (.inl ⟨HB.out,e0,HF.out,rfl,q.trans q1⟩)
    have HNO:Hid (¬Own xr (.slice (some ⟨vb,0,none⟩) 12 vcap) (.slice (some ⟨b,0,none⟩) l.length cp) w.heap.size):=hid fun q=>Nat.lt_irrefl _ (HH.out.lt q)
    have HW2:Hid ((w1.setRow w.heap.size #[.int .i64 (e0.k:Int),.string (Sh.strL e0.d),.bool e0.dirty,.int .i64 (e0.pins:Int)]).heap[w.heap.size]?=some (.cells #[.int .i64 (e0.k:Int),.string (Sh.strL e0.d),.bool e0.dirty,.int .i64 (e0.pins:Int)] 129 (0,0))/\Below w.heap.size w (w1.setRow w.heap.size #[.int .i64 (e0.k:Int),.string (Sh.strL e0.d),.bool e0.dirty,.int .i64 (e0.pins:Int)])):=hid ⟨setRow_heap _ w.heap.size _ _ _ _ HW1.out.1,below_setRow HW1.out.2 (Nat.le_refl _) _⟩
    clear hat hf hi1 hi2 hd hek he0 h HR HI HMV
    generalize placeE l e0.k=pl at *
    generalize hm:l.length=m at *
    refine HAT.out.mono ?_
    rintro r w2 ⟨rfl,rfl⟩
    clear HAT
    go_wp2_with (first
      | (refine Go.Proofs.YtcepognpbeahhaaGreatDoor.Kc.wpList_load_any rfl 129 (.tmp 38) rfl ⟨b,pl*4,none⟩ rfl [.int .i64 (e0.k:Int),.string (Sh.strL e0.d),.bool e0.dirty,.int .i64 (e0.pins:Int)] _ (four f0 f1 f2 f3) Tryz.underlying129 rfl (by kernel_rfl) ?_)
      | (refine wpList_store_row rfl 129 (.tmp 7) (.tmp 39) rfl w.heap.size #[.int .i64 (e0.k:Int),.string (Sh.strL e0.d),.bool e0.dirty,.int .i64 (e0.pins:Int)] rfl rfl 129 _ HW1.out.1 (by kernel_rfl) rfl (by simp [Value.oneCell']) ?_;
         generalize w1.setRow w.heap.size #[.int .i64 (e0.k:Int),.string (Sh.strL e0.d),.bool e0.dirty,.int .i64 (e0.pins:Int)]=w2 at *;
         have k1:w2.cell? ⟨w.heap.size,1,none⟩=some (.string (Sh.strL e0.d)):=cell_of_row _ _ 1 _ _ _ HW2.out.1;
         have k2:w2.cell? ⟨w.heap.size,2,none⟩=some (.bool e0.dirty):=cell_of_row _ _ 2 _ _ _ HW2.out.1;
         have k3:w2.frozen? ⟨w.heap.size,1,none⟩=false:=frozen_of_row _ _ _ _ _ HW2.out.1;
         have k4:w2.frozen? ⟨w.heap.size,2,none⟩=false:=frozen_of_row _ _ _ _ _ HW2.out.1;
         have HPE:=hid (put_end (u1:=.string (Sh.strL bs)) (u2:=.bool true) ⟨Sh.Only.of_below HW2.out.2 fun b h3 h4=>absurd h4 (by omega),fun b hb=>.inl hb⟩ (HH.out.grown HW2.out.2) HW2.out.1 HNO.out))
      | (refine Go.Proofs.YtcepognpbeahhaaGreatDoor.Kc.wpList_load_any rfl 129 (.tmp 7) rfl ⟨w.heap.size,0,none⟩ rfl [.int .i64 (e0.k:Int),.string (Sh.strL bs),.bool true,.int .i64 (e0.pins:Int)] _ (fun j v hv=>by rw [U.add_plain,cell_of_row _ _ _ _ _ _ HPE.out.2.2];simpa using hv) Tryz.underlying129 rfl (by kernel_rfl) ?_))
    generalize ((w2.setCell ⟨w.heap.size,1,none⟩ (.string (Sh.strL bs))).setCell ⟨w.heap.size,2,none⟩ (.bool true))=w3 at *
    have HU:=hid (rUse HPE.out.1 { e0 with d:=bs,dirty:=true } hl0 hp0 hdl)
    unfold entV at HU
    refine HU.out.mono ?_
    rintro r w4 ⟨rfl,h5⟩
    have HG2:=hid (HG.out _ w4 HPE.out.2.1 h5)
    clear h5 HG HU HPE
    go_wp2
    exact HG2.out
end
end Go.Proofs.YtcepognpbeahhaaGreatDoor.Rc
