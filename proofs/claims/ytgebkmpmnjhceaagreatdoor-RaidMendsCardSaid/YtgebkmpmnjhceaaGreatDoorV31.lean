/-
  What the statement's proof rests on, part 31.
  Conditions: each theorem's own.
-/
import Derived.Test.YtgebkmpmnjhceaaGreatDoorV30
import Derived.Test.YtgebkmpmnjhceaaGreatDoorVtk
open Go.Lib (hid)
open Go.Proofs.YtgebkmpmnjhceaaGreatDoor.S renaming Sup → SuP
namespace Go.Proofs.YtgebkmpmnjhceaaGreatDoor.U
open Go.RowKit Go.Maps
theorem info_stsz:(Tryz.prog.info? 64).map (·.size)=some 6:=by kernel_rfl
set_option maxRecDepth 20000 in
theorem load_st {w:World} {g:Nat} {v0 v1 v2 v3 v4 v5:Value} (h:w.heap[g]?=some (.cells #[v0,v1,v2,v3,v4,v5] 64 (0,0))):(loadVar 64 ⟨g,0,none⟩).run Tryz.prog w=.ok (.agg #[v0,v1,v2,v3,v4,v5]) w :=
 run_loadVar_row (P:=Tryz.prog) _ g 64 64 _ (0,0) _ h Tryz.underlying64 rfl info_stsz
theorem cells6 {w:World} {g:Nat} {v0 v1 v2 v3 v4 v5:Value} {t:TypeId} (h:w.heap[g]?=some (.cells #[v0,v1,v2,v3,v4,v5] t (0,0))) :
  w.cell? ⟨g,0,none⟩=some v0/\w.cell? ⟨g,1,none⟩=some v1/\w.cell? ⟨g,2,none⟩=some v2/\w.cell? ⟨g,3,none⟩=some v3/\w.cell? ⟨g,4,none⟩=some v4/\w.cell? ⟨g,5,none⟩=some v5/\∀i,w.frozen? ⟨g,i,none⟩=false :=
 ⟨cell_of_row _ _ 0 _ _ _ h,cell_of_row _ _ 1 _ _ _ h,cell_of_row _ _ 2 _ _ _ h,cell_of_row _ _ 3 _ _ _ h,cell_of_row _ _ 4 _ _ _ h,cell_of_row _ _ 5 _ _ _ h,fun _=>frozen_of_row _ _ _ _ _ h⟩
theorem hb_alloc_st (w:World):Below w.heap.size w (w.alloc (.cells #[.int .i64 0,.int .i64 0,.slice none 0 0,.int .i64 0,.int .i64 0,.int .i64 0] 64)).drew:=((Below.refl _ _).alloc (Nat.le_refl _) _).trans (drew_below _ |>.mono (by simp))
section
variable {J:Vk} {w w':World} {s:SuP} {o:Nat->Int} {S:Sh.Sf} {F:Nat->Prop} {D U:Set0} {M St:Nat}
def deads (s:SuP) (M St:Nat) (S:Sh.Sf) (k:Nat):List Nat:=(List.range k).filter (memDead s M St S)
theorem deads_succ (k:Nat):deads s M St S (k+1)=if memDead s M St S k then deads s M St S k++[k] else deads s M St S k:=by
 unfold deads
 rw [List.range_succ,List.filter_append]
 cases h:memDead s M St S k<;>simp [h]
theorem deads_len (k:Nat):(deads s M St S k).length<=k:=by
 unfold deads
 exact Nat.le_trans (List.length_filter_le _ _) (by simp)
set_option maxRecDepth 20000 in
set_option maxHeartbeats 2000000 in
theorem status_any (h:Vr J w s o S F D U) (hf:Fits J.n J.L s M St S) :
  Calls Tryz.prog 26 #[.pointer (some ⟨J.v,0,none⟩)] w fun e w'=>∃(A:Option Addr) (c:Nat),e=.returned (.agg #[.int .i64 M,.int .i64 St,.slice A (deads s M St S M).length c,.int .i64 s.spare,.int .i64 s.mark,.int .i64 s.cur])/\Below w.heap.size w w':=by
 have hb:Below w.heap.size w (w.alloc (.cells #[.int .i64 0,.int .i64 0,.slice none 0 0,.int .i64 0,.int .i64 0,.int .i64 0] 64)):=(Below.refl _ _).alloc (Nat.le_refl _) _
 have HQ:=hid (heap_alloc_new w (.cells #[.int .i64 0,.int .i64 0,.slice none 0 0,.int .i64 0,.int .i64 0,.int .i64 0] 64))
 have HH:=hid (And.intro h hf)
 have HC:Hid (∀W',Below w.heap.size w W'->W'.cell? ⟨J.v,2,none⟩=some (.int .i64 M)/\W'.cell? ⟨J.v,4,none⟩=some (.int .i64 St)/\W'.cell? ⟨J.v,6,none⟩=some (.int .i64 s.spare)/\W'.cell? ⟨J.v,7,none⟩=some (.int .i64 s.mark)/\W'.cell? ⟨J.v,8,none⟩=some (.int .i64 s.cur)):=hid fun W' hb=>by
  have r:=(h.grown hb).vo.vol.root
  rw [hf.mem,hf.str] at r
  exact ⟨cell_of_row _ _ 2 _ _ _ r,cell_of_row _ _ 4 _ _ _ r,cell_of_row _ _ 6 _ _ _ r,cell_of_row _ _ 7 _ _ _ r,cell_of_row _ _ 8 _ _ _ r⟩
 have HB:=hid hb
 have HD:=hid (fun (w1:World) (hb:Below w.heap.size w w1) (m:Nat) (hm:m<M)=>isDead_any (h.grown hb) hf m hm)
 have hm16:=hf.m16
 have HSTZ:Hid (w.heap.size<(w.alloc (.cells #[.int .i64 0,.int .i64 0,.slice none 0 0,.int .i64 0,.int .i64 0,.int .i64 0] 64)).heap.size):=hid (by simp)
 clear h hf hb
 go_enter Tryz.func26,Tryz.ntmps26
 go_wp2
 generalize w.alloc (.cells #[.int .i64 0,.int .i64 0,.slice none 0 0,.int .i64 0,.int .i64 0,.int .i64 0] 64)=w1 at *
 have j2:=fun (W':World) (h:Below w1.heap.size w1 W')=>(HC.out W' (HB.out.trans (h.mono HB.out.size))).1
 have j4:=fun (W':World) (h:Below w1.heap.size w1 W')=>(HC.out W' (HB.out.trans (h.mono HB.out.size))).2.1
 have j6:=fun (W':World) (h:Below w1.heap.size w1 W')=>(HC.out W' (HB.out.trans (h.mono HB.out.size))).2.2.1
 have j7:=fun (W':World) (h:Below w1.heap.size w1 W')=>(HC.out W' (HB.out.trans (h.mono HB.out.size))).2.2.2.1
 have j8:=fun (W':World) (h:Below w1.heap.size w1 W')=>(HC.out W' (HB.out.trans (h.mono HB.out.size))).2.2.2.2
 refine wp_region_held_drew (S:=fun W'=>Below w1.heap.size w1 W') (by kernel_rfl) (drew_below w1) (fun hHeld=>?_)
 refine tk 0 8 ?_
 refine tk 1 9 ?_
 refine tk 2 10 ?_
 refine tk 3 11 ?_
 refine tk 4 12 ?_
 refine tk 5 13 ?_
 refine tk 6 14 ?_
 refine tk 7 15 ?_
 refine tk 8 16 ?_
 refine tk 9 17 ?_
 refine tk 10 18 ?_
 refine tk 11 19 ?_
 refine tk 12 20 ?_
 refine tk 13 21 ?_
 refine tk 14 22 ?_
 refine tk 15 23 ?_
 refine tk 16 24 ?_
 refine tk 17 25 ?_
 refine tk 18 26 ?_
 refine tk 19 27 ?_
 refine tk 20 28 ?_
 refine tk 21 29 ?_
 refine tk 22 30 ?_
 refine tk 23 31 ?_
 refine tk 24 32 ?_
 refine tk 25 33 ?_
 refine r1 26 (some 3) fun K hK=>?_
 rw [if_pos (by rfl)]
 go_simp
 refine hK.out _ _ (hHeld.alloc hHeld.size _) (fun hHeld=>?_)
 clear hK K
 try simp only [Act.put,List.setIfInBounds_toArray,List.set_cons_zero,List.set_cons_succ]
 refine r1 27 none fun K hK=>?_
 rw [if_pos (by rfl)]
 refine wp_store_row 64 _ _ rfl (w1.heap.size) (#[.int .i64 M,.int .i64 St,.slice none 0 0,.int .i64 s.spare,.int .i64 s.mark,.int .i64 s.cur]) rfl rfl 64 _ (heap_alloc_new w1.drew _) info_stsz rfl (by simp [Value.oneCell']) ?_
 refine hK.out _ _ (below_setRow hHeld (Nat.le_refl _) _) (fun hHeld=>?_)
 clear hK K
 refine wpAnyH_done (by kernel_rfl) ?_ _
 have hq2:=setRow_heap (w1.alloc (.cells #[.int .i64 0,.int .i64 0,.slice none 0 0,.int .i64 0,.int .i64 0,.int .i64 0] 64)).drew w1.heap.size _ (#[.int .i64 M,.int .i64 St,.slice none 0 0,.int .i64 s.spare,.int .i64 s.mark,.int .i64 s.cur]) _ _ (heap_alloc_new w1 (.cells #[.int .i64 0,.int .i64 0,.slice none 0 0,.int .i64 0,.int .i64 0,.int .i64 0] 64))
 have HB2:=hid (HB.out.trans (hHeld.mono HB.out.size))
 have HR2:Hid (((w1.alloc (.cells #[.int .i64 0,.int .i64 0,.slice none 0 0,.int .i64 0,.int .i64 0,.int .i64 0] 64)).drew.setRow w1.heap.size #[.int .i64 M,.int .i64 St,.slice none 0 0,.int .i64 s.spare,.int .i64 s.mark,.int .i64 s.cur]).heap[w.heap.size]?=some (.cells #[.int .i64 0,.int .i64 0,.slice none 0 0,.int .i64 0,.int .i64 0,.int .i64 0] 64 (0,0))):=hid (((only_setRow _ w1.heap.size _).block _ (Nat.lt_of_lt_of_le HSTZ.out (by simp [World.drew])) (Nat.ne_of_lt HSTZ.out)).trans (((hb_alloc_st w1).block _ HSTZ.out).trans HQ.out))
 clear j2 j4 j6 j7 j8 hHeld
 generalize (w1.alloc (.cells #[.int .i64 0,.int .i64 0,.slice none 0 0,.int .i64 0,.int .i64 0,.int .i64 0] 64)).drew.setRow w1.heap.size #[.int .i64 M,.int .i64 St,.slice none 0 0,.int .i64 s.spare,.int .i64 s.mark,.int .i64 s.cur]=w2 at *
 have hM:=(HC.out w2 HB2.out).1
 have HG:Hid (w.heap.size<w1.heap.size/\w1.heap.size<w2.heap.size):=hid ⟨HSTZ.out,lt_of_block hq2⟩
 generalize w1.heap.size=g at *
 obtain ⟨i0,hi,hz0,hz1,hz2⟩:=info_parts L.info_int
 have hrel0:∃(j:Nat) (sl:Value),j<=M/\Value.int .i64 0=.int .i64 j/\Hid (w2.heap[g]?=some (.cells #[.int .i64 M,.int .i64 St,sl,.int .i64 s.spare,.int .i64 s.mark,.int .i64 s.cur] 64 (0,0))/\w2.ownsRow (g+1) 3 1 sl (deads s M St S j).length (L.ints (deads s M St S j))/\Below w.heap.size w w2/\g<w2.heap.size/\w2.heap[w.heap.size]?=some (.cells #[.int .i64 0,.int .i64 0,.slice none 0 0,.int .i64 0,.int .i64 0,.int .i64 0] 64 (0,0))):=⟨0,_,Nat.zero_le _,rfl,hid ⟨hq2,World.ownsRow_nil _ _ _ _,HB2.out,HG.out.2,HR2.out⟩⟩
 clear hq2
 go_wp2
 go_loopw [39] (fun i wr=>∃(j:Nat) (sl:Value),j<=M/\i=.int .i64 j/\Hid (wr.heap[g]?=some (.cells #[.int .i64 M,.int .i64 St,sl,.int .i64 s.spare,.int .i64 s.mark,.int .i64 s.cur] 64 (0,0))/\wr.ownsRow (g+1) 3 1 sl (deads s M St S j).length (L.ints (deads s M St S j))/\Below w.heap.size w wr/\g<wr.heap.size/\wr.heap[w.heap.size]?=some (.cells #[.int .i64 0,.int .i64 0,.slice none 0 0,.int .i64 0,.int .i64 0,.int .i64 0] 64 (0,0)))) (fun i _=>M-(intOf i).toNat)
 case atStart=>exact hrel0
 case round =>
  obtain ⟨j,sl,hj,rfl,hR⟩:=hrel
  by_cases hlt:j<M
  ·have HCD:=hid (HD.out wr hR.out.2.2.1 j hlt)
   have hds:=deads_succ (s:=s) (M:=M) (St:=St) (S:=S) j
   have hdl:=deads_len (s:=s) (M:=M) (St:=St) (S:=S) j
   cases hm:memDead s M St S j
   ·rw [hm] at HCD hds
    go_wp2_with fail
    refine HCD.out.mono ?_
    rintro e w3 ⟨rfl,hb3⟩
    have HR3:Hid (w3.heap[g]?=some (.cells #[.int .i64 M,.int .i64 St,sl,.int .i64 s.spare,.int .i64 s.mark,.int .i64 s.cur] 64 (0,0))/\w3.ownsRow (g+1) 3 1 sl (deads s M St S (j+1)).length (L.ints (deads s M St S (j+1)))/\Below w.heap.size w w3/\g<w3.heap.size/\w3.heap[w.heap.size]?=some (.cells #[.int .i64 0,.int .i64 0,.slice none 0 0,.int .i64 0,.int .i64 0,.int .i64 0] 64 (0,0))):=hid (by
     obtain ⟨r1,r2,r3,r4,r5⟩:=hR.out
     rw [hds,if_neg (by simp)]
     exact ⟨(hb3.block g r4).trans r1,Sh.same_row r2 fun b hb=>hb3.block b (r2.lt b hb).2,r3.trans (hb3.mono r3.size),Nat.lt_of_lt_of_le r4 hb3.size,(hb3.block _ (lt_of_block r5)).trans r5⟩)
    clear hb3 HCD hm hds
    go_wp2
    go_roundw
    case rel=>exact ⟨j+1,sl,by omega,by go_num,HR3⟩
    case measure=>simp [intOf];omega
   ·rw [hm] at HCD hds
    rw [if_pos rfl] at hds
    go_wp2_with fail
    refine HCD.out.mono ?_
    rintro e w3 ⟨rfl,hb3⟩
    obtain ⟨r1,r2,r3,r4,r5⟩:=hR.out
    have HR3:Hid (w3.heap[g]?=some (.cells #[.int .i64 M,.int .i64 St,sl,.int .i64 s.spare,.int .i64 s.mark,.int .i64 s.cur] 64 (0,0))/\w3.ownsRow (g+1) 3 1 sl (deads s M St S j).length (L.ints (deads s M St S j))/\Below w.heap.size w w3/\g<w3.heap.size/\w3.heap[w.heap.size]?=some (.cells #[.int .i64 0,.int .i64 0,.slice none 0 0,.int .i64 0,.int .i64 0,.int .i64 0] 64 (0,0))):=hid ⟨(hb3.block g r4).trans r1,Sh.same_row r2 fun b hb=>hb3.block b (r2.lt b hb).2,r3.trans (hb3.mono r3.size),Nat.lt_of_lt_of_le r4 hb3.size,(hb3.block _ (lt_of_block r5)).trans r5⟩
    clear hb3 HCD hm r1 r2 r3 r4 r5
    obtain ⟨k0,k1,k2,k3,k4,k5,k6⟩:=cells6 HR3.out.1
    have k2':=k2
    have hown:=HR3.out.2.1
    have hgl:=HR3.out.2.2.2.1
    clear k0 k1 k3 k4 k5
    go_wp2_with (at_builtin;refine append1 rfl _ _ 24 rfl (g+1) 3 i0 (.int .i64 0) 8 Tryz.underlying24 hi hz0 hz1 hz2 rfl _ (deads s M St S j).length _ rfl (.int .i64 j) rfl rfl (by exact hown) (by unfold maxLen;omega) (by omega) w3 (Below.refl _ _) (by omega) ?_;intro v' w5 hown5 hbel5;obtain ⟨A5,c5x,rfl,_,_,_⟩:=own_shape hown5;have c5:=hbel5.cell (p:=⟨g,2,none⟩) (Nat.lt_succ_self g);rw [k2] at c5;have f5:=hbel5.frozen (p:=⟨g,2,none⟩) (Nat.lt_succ_self g);rw [k6] at f5)
    have HR5:Hid ((w5.setCell ⟨g,2,none⟩ (.slice A5 ((deads s M St S j).length+1) c5x)).heap[g]?=some (.cells #[.int .i64 M,.int .i64 St,.slice A5 ((deads s M St S j).length+1) c5x,.int .i64 s.spare,.int .i64 s.mark,.int .i64 s.cur] 64 (0,0))/\(w5.setCell ⟨g,2,none⟩ (.slice A5 ((deads s M St S j).length+1) c5x)).ownsRow (g+1) 3 1 (.slice A5 ((deads s M St S j).length+1) c5x) (deads s M St S (j+1)).length (L.ints (deads s M St S (j+1)))/\Below w.heap.size w (w5.setCell ⟨g,2,none⟩ (.slice A5 ((deads s M St S j).length+1) c5x))/\g<(w5.setCell ⟨g,2,none⟩ (.slice A5 ((deads s M St S j).length+1) c5x)).heap.size/\(w5.setCell ⟨g,2,none⟩ (.slice A5 ((deads s M St S j).length+1) c5x)).heap[w.heap.size]?=some (.cells #[.int .i64 0,.int .i64 0,.slice none 0 0,.int .i64 0,.int .i64 0,.int .i64 0] 64 (0,0))):=hid (by
     obtain ⟨r1,r2,r3,r4,r5⟩:=HR3.out
     have ho:=(Sh.Only.refl (fun b=>b=g) w5).setCell (p:=⟨g,2,none⟩) (.inl rfl) (.slice A5 ((deads s M St S j).length+1) c5x)
     have hg5:g<w5.heap.size:=Nat.lt_of_lt_of_le r4 hbel5.size
     rw [hds]
     refine ⟨cells_set _ ((hbel5.block g (Nat.lt_succ_self g)).trans r1),?_,?_,Nat.lt_of_lt_of_le hg5 ho.size,?_⟩
     ·rw [List.length_append,L.ints,List.map_append]
      exact Sh.same_row hown5 fun b hb=>ho.block b (hown5.lt b hb).2 (Nat.ne_of_gt (hown5.lt b hb).1)
     ·exact ((r3.trans (hbel5.mono (Nat.le_of_lt (Nat.lt_succ_of_lt HG.out.1)))).trans ((ho.below (B:=w.heap.size) (fun b e=>by rw [e];exact Nat.le_of_lt HG.out.1) (Nat.le_trans r3.size hbel5.size))))
     ·exact (ho.block _ (Nat.lt_trans HG.out.1 hg5) (Nat.ne_of_lt HG.out.1)).trans ((hbel5.block _ (Nat.lt_succ_of_lt HG.out.1)).trans r5))
    exact ⟨⟨j+1,_,by omega,by go_num,HR5⟩,by simp [intOf];omega⟩
  ·obtain rfl:j=M:=by omega
   obtain ⟨r1,r2,r3,r4,r5⟩:=hR.out
   obtain ⟨A5,c5,rfl⟩:∃A c,sl=.slice A (deads s j St S j).length c:=Sh.own_shape2 r2
   obtain ⟨k0,k1,k2,k3,k4,k5,_⟩:=cells6 r1
   have HR5:=hid r5
   have HR3:=hid r3
   clear r1 r2 r3 r4 r5 hR hM
   go_wp2_with (
    (refine wpList_store_row rfl 64 (.tmp 2) (.tmp 52) rfl w.heap.size (#[.int .i64 j,.int .i64 St,.slice A5 (deads s j St S j).length c5,.int .i64 s.spare,.int .i64 s.mark,.int .i64 s.cur]) rfl rfl 64 _ HR5.out info_stsz rfl (by simp [Value.oneCell']) ?_))
   have HE:=hid (below_setRow HR3.out (Nat.le_refl _) #[.int .i64 j,.int .i64 St,.slice A5 (deads s j St S j).length c5,.int .i64 s.spare,.int .i64 s.mark,.int .i64 s.cur])
   have HL:=hid (load_st (setRow_heap _ w.heap.size _ #[.int .i64 j,.int .i64 St,.slice A5 (deads s j St S j).length c5,.int .i64 s.spare,.int .i64 s.mark,.int .i64 s.cur] _ _ HR5.out))
   exact bodyPost_ret (results_cell (g:=w.heap.size) Tryz.results26 rfl HL.out) rfl ⟨A5,c5,rfl,HE.out⟩
end
theorem DW.wrote {S S':Sh.Sf} {d k m:Nat} {o y o':Int} {b:Sh.Bs} {P:Cs} (h:DW S d o k b y o' S') (hj:Jp S d o P) (hk:k<blk S.sectors) (hb:Small b) (hv:Small (V S d (dataOf k))) (hL:∀x∈S.disks,x.waits.length<=m):Wrote S d k b P m y o' S':=by
 rcases h with ⟨hw,rfl,rfl,rfl⟩ | ⟨hw,b',R,_,rfl,_,rfl,h0,_,rfl⟩
 ·have hoff:S'.off≠false:=fun e=>hw (hj.one.why0.mpr e)
  exact ⟨hj.more (fun c e=>.inl e),fun e=>absurd e hoff,id,rfl,fun hc=>absurd hc.on hoff,fun k hk=>by have:=hL k hk;omega⟩
 ·have hon:=hj.one.why0.mp hw
  have hg:=hj.good hon k hk
  unfold Ready at *
  rw [hg] at h0 ⊢
  obtain ⟨j1,j2⟩:=hj.write hon k hk b b' hb hv h0
  have hse:(Wr (ReadyQ (Looked S d) d o k true (sumL d k (V S d (dataOf k))) (sumL d k b) (V S d (sumOf k)) b') d (dataOf k) b).sectors=S.sectors:=by
   rw [wr_sectors]
   unfold ReadyQ
   rw [fl_sectors,wr_sectors,spIf_sectors,flIf_sectors,looked_sectors]
  refine ⟨j1.more (fun c e=>e.imp id (fun e=>⟨hon,e⟩)),fun e=>⟨j2 e,?_⟩,fun _=>hon,hse,fun hc=>?_,?_⟩
  ·have hww:=j1.one.why0.mpr e
   by_cases hq:Sh.why (ReadyQ (Looked S d) d o k true (sumL d k (V S d (dataOf k))) (sumL d k b) (V S d (sumOf k)) b') d=0
   ·exact hq
   ·rw [wr_why hq] at hww;exact absurd hww hq
  ·obtain ⟨r1,_,_⟩:=ready_over hc o k hk b b'
   unfold Ready at r1
   rw [hg] at r1
   exact ⟨r1.calm.why,r1.calm.wr _ _⟩
  ·refine wr_lens (m:=m+1) (fl_lens ?_)
   refine wr_lens ?_
   have e:∀s x,spIf (flIf (Looked S d) d o k) d k true s x b'=flIf (Looked S d) d o k:=fun s x=>by unfold spIf;rw [if_neg (fun h=>by simp at h)]
   rw [e]
   have hlk:∀k∈(Looked S d).disks,k.waits.length<=m:=by rw [looked_disks];exact hL
   unfold flIf
   split
   ·exact fl_lens hlk
   ·exact hlk
theorem some_lens (l:List Sh.Dk):∃m,∀x∈l,x.waits.length<=m:=by
 induction l with
 | nil=>exact ⟨0,fun x hx=>by cases hx⟩
 | cons a l ih =>
  obtain ⟨m,hm⟩:=ih
  refine ⟨m+a.waits.length,fun x hx=>?_⟩
  rcases List.mem_cons.1 hx with rfl | hx
  ·omega
  ·have:=hm x hx;omega
structure Cv (S:Sh.Sf) (n:Nat) (o:Nat->Int) (v:Nat->Nat->Sh.Bs):Prop where
 calm:Calms S n
 jp:∀d,d<n->Jp S d (o d) (fun _=>True)
 val:∀d,d<n->vals (dk S d)=v d
 sec:∀d,d<n->∀k,k<blk S.sectors->Sh.Sec (v d k)
 cnt:S.disks.length=n
section
variable {S S' T:Sh.Sf} {n L M St k st:Nat} {o:Nat->Int} {v:Nat->Nat->Sh.Bs} {s:SuP}
theorem Cv.V (h:Cv S n o v) {d:Nat} (hd:d<n) (k:Nat):U.V S d (dataOf k)=v d k:=by
 rw [<- vals_V,h.val d hd]
theorem Cv.rd (h:Cv S n o v) {d:Nat} (hd:d<n) (hk:k<blk S.sectors):rdY S d k=0:=by
 have hc:=h.calm d hd
 unfold rdY
 rw [if_pos hc.why,if_pos ((h.jp d hd).good hc.on k hk)]
theorem Cv.same (h:Cv S n o v) (hs:Same S T):Cv T n o v:=by
 refine ⟨fun d hd=>hs.calm (h.calm d hd),fun d hd=>?_,fun d hd=>?_,fun d hd=>?_,hs.len.trans h.cnt⟩
 ·have e:dk T d=dk S d:=by unfold dk;rw [hs.disks]
  obtain ⟨j1,j2,j3⟩:=h.jp d hd
  exact ⟨⟨by rw [hs.disks];exact j1.lt,by rw [e];exact j1.alive,by rw [e,hs.sectors];exact j1.len⟩,by rw [hs.sectors,e];exact j2,fun x=>by rw [hs.sectors,e];exact j3 (hs.off.symm.trans x)⟩
 ·have e:dk T d=dk S d:=by unfold dk;rw [hs.disks]
  rw [e];exact h.val d hd
 ·rw [hs.sectors];exact h.sec d hd
theorem Cv.dw (h:Cv S n o v) {d:Nat} (hd:d<n) (hk:k<blk S.sectors) {b:Sh.Bs} (hb:Sh.Sec b) {y o':Int} (hw:DW S d (o d) k b y o' S'):y=0/\Cv S' n (put1 o d o') (put1 v d (upd (v d) k b))/\S'.sectors=S.sectors:=by
 obtain ⟨m,hm⟩:=some_lens S.disks
 have hc:=h.calm d hd
 have hv:Small (U.V S d (dataOf k)):=by rw [h.V hd];exact (h.sec d hd k hk).2
 have hW:=hw.wrote (h.jp d hd) hk hb.2 hv hm
 obtain ⟨hy,hc'⟩:=hW.calm hc
 have ha:=hw.alike
 refine ⟨hy,⟨fun e he=>(h.calm e he).alike ha hW.sectors hc',fun e he=>?_,fun e he=>?_,fun e he j hj=>?_,hw.len.trans h.cnt⟩,hW.sectors⟩
 ·unfold put1
  by_cases e1:e=d
  ·subst e1;rw [if_pos rfl];exact hW.jp.more fun _ _=>trivial
  ·rw [if_neg e1];exact (h.jp e he).alike ha hW.sectors hW.on e1
 ·unfold put1
  by_cases e1:e=d
  ·subst e1;rw [if_pos rfl,(hW.now hc'.on).1,h.val e he]
  ·rw [if_neg e1]
   have e2:dk S' e=dk S e:=ha.2 e e1
   rw [e2];exact h.val e he
 ·rw [hW.sectors] at hj
  unfold put1
  by_cases e1:e=d
  ·subst e1
   rw [if_pos rfl]
   unfold upd
   split
   ·exact hb
   ·exact h.sec e he j hj
  ·rw [if_neg e1];exact h.sec e he j hj
theorem Cv.lens (h:Cv S n o v):∀x∈S.disks,x.waits.length<=1:=by
 intro x hx
 obtain ⟨d,hd,rfl⟩:=List.mem_iff_getElem.1 hx
 have hd2:d<n:=by rw [<- h.cnt];exact hd
 have e:S.disks[d]=dk S d:=by unfold dk;simp [List.getD,hd]
 rw [e]
 rcases ((h.jp d hd2).neat (h.calm d hd2).on).waits with e | ⟨i,b,_,_,e,_⟩<;>rw [e]<;>simp
theorem Cv.any (h:Cv S n o v) (hw:∀d,d<n->(dk S d).waits=[]) (o':Nat->Int):Cv S n o' v :=
 ⟨h.calm,fun d hd=>by
  have j:=h.jp d hd
  exact Jp.of j.one ((j.neat (h.calm d hd).on).any (hw d hd) _),h.val,h.sec,h.cnt⟩
theorem Cv.fl (h:Cv S n o v) {d:Nat} (hd:d<n) (o':Int):Cv (Fl S d) n (put1 o d o') v/\(dk (Fl S d) d).waits=[]:=by
 have hc:=h.calm d hd
 obtain ⟨j1,j2,j3⟩:=(h.jp d hd).flush hc.on o'
 have ha:=alike_fl S d
 refine ⟨⟨fun e he=>calm_fl hc (h.calm e he),fun e he=>?_,fun e he=>?_,fun e he j hj=>?_,(fl_length S d).trans h.cnt⟩,j3⟩
 ·unfold put1
  by_cases e1:e=d
  ·subst e1;rw [if_pos rfl];exact j1.more fun _ _=>trivial
  ·rw [if_neg e1];exact (h.jp e he).alike ha (fl_sectors S d) (fun _=>hc.on) e1
 ·by_cases e1:e=d
  ·subst e1;exact j2.trans (h.val e he)
  ·have e2:dk (Fl S d) e=dk S e:=ha.2 e e1
   rw [e2];exact h.val e he
 ·rw [fl_sectors] at hj;exact h.sec e he j hj
theorem Cv.fd (h:Cv S n o v) {k:Nat} (hk:k<=n):(fdS S k).2=0/\∃o',Cv (fdS S k).1 n o' v/\∀d,d<k->(dk (fdS S k).1 d).waits=[]:=by
 induction k with
 | zero=>exact ⟨rfl,o,h,fun d hd=>absurd hd (by omega)⟩
 | succ k ih =>
  obtain ⟨h1,o1,h2,h3⟩:=ih (by omega)
  have hs:=fdS_succ S h1
  obtain ⟨f1,f2⟩:=h2.fl (d:=k) (by omega) 0
  refine ⟨(fdS_calm h.calm hk).1,_,by rw [hs];exact f1,fun d hd=>?_⟩
  rw [hs]
  by_cases e:d=k
  ·subst e;exact f2
  ·have e2:dk (Fl (fdS S k).1 k) d=dk (fdS S k).1 d:=(alike_fl _ k).2 d e
   show (dk (Fl (fdS S k).1 k) d).waits=[]
   rw [e2];exact h3 d (by omega)
theorem Cv.fdn (h:Cv S n o v) (o':Nat->Int):(fdS S n).2=0/\Cv (fdS S n).1 n o' v/\(fdS S n).1.sectors=S.sectors:=by
 obtain ⟨h1,o1,h2,h3⟩:=h.fd (Nat.le_refl n)
 exact ⟨h1,h2.any h3 o',fdS_sectors S n⟩
def Agree (L:Nat) (v v':Nat->Nat->Sh.Bs):Prop:=∀d k,2+2*L<=k->v' d k=v d k
theorem Agree.refl (L:Nat) (v:Nat->Nat->Sh.Bs):Agree L v v:=fun _ _ _=>rfl
theorem Agree.trans {v1 v2 v3:Nat->Nat->Sh.Bs} (h:Agree L v1 v2) (k:Agree L v2 v3):Agree L v1 v3:=fun d x hx=>(k d x hx).trans (h d x hx)
theorem agree_put {L:Nat} (v:Nat->Nat->Sh.Bs) (d k:Nat) (b:Sh.Bs) (hk:k<2+2*L):Agree L v (put1 v d (upd (v d) k b)):=by
 intro e x hx
 unfold put1 upd
 split
 ·rename_i e1
  subst e1
  exact if_neg (by omega)
 ·rfl
theorem Cv.clr {U:Set0} {l:List (Nat × Nat)} {a b:Stt} (hs:ClrSteps U l a b) (h:Cv a.S n a.o v) (hb:2+2*L<=blk a.S.sectors) (hl:∀x∈l,x.1<n/\x.2<L):∃v',Cv b.S n b.o v'/\Agree L v v'/\b.S.sectors=a.S.sectors:=by
 induction hs with
 | nil=>exact ⟨v,h,Agree.refl L v,rfl⟩
 | snoc hs hc ih =>
  rename_i l x a b c
  obtain ⟨v1,h1,g1,e1⟩:=ih h hb (fun y hy=>hl y (List.mem_append_left _ hy))
  obtain ⟨x1,x2⟩:=hl x (by simp)
  rcases hc with ⟨_,_,rfl⟩ | ⟨_,z,z',hd,_,ho⟩
  ·exact ⟨v1,h1,g1,e1⟩
  ·obtain ⟨_,h2,e2⟩:=h1.dw x1 (by rw [e1];omega) Sh.noughts_sec hd
   rw [<- ho] at h2
   exact ⟨_,h2,g1.trans (agree_put v1 x.1 _ _ (by omega)),e2.trans e1⟩
theorem Cv.clr1 {U:Set0} {x:Nat × Nat} {a b:Stt} {y:Int} (hc:ClrStep U x a y b) (h:Cv a.S n a.o v) (hb:2+2*L<=blk a.S.sectors) (h1:x.1<n) (h2:x.2<L):y=0:=by
 rcases hc with ⟨_,rfl,_⟩ | ⟨_,z,z',hd,rfl,_⟩
 ·rfl
 ·obtain ⟨rfl,_⟩:=h.dw h1 (by omega) Sh.noughts_sec hd
  rfl
theorem slotsTo_mem {L j k:Nat} {x:Nat × Nat} (h:x∈slotsTo L j k):(x.1<j/\x.2<L)\/(x.1=j/\x.2<k):=by
 unfold slotsTo at h
 simp only [List.mem_append,List.mem_flatMap,List.mem_map,List.mem_range] at h
 rcases h with ⟨d,hd,y,hy,rfl⟩ | ⟨y,hy,rfl⟩
 ·exact .inl ⟨hd,hy⟩
 ·exact .inr ⟨rfl,hy⟩
theorem Cv.clrR {U:Set0} {a b:Stt} {y:Int} (hr:ClrR n L U a y b) (h:Cv a.S n a.o v) (hb:2+2*L<=blk a.S.sectors):y=0/\∃v',Cv b.S n b.o v'/\Agree L v v'/\b.S.sectors=a.S.sectors:=by
 rcases hr with ⟨rfl,hs⟩ | ⟨hy,j,k,c,hj,hk,hs,hc⟩
 ·exact ⟨rfl,h.clr hs hb fun x hx=>by rcases slotsTo_mem hx with ⟨h1,h2⟩ | ⟨_,h2⟩;exact ⟨h1,h2⟩;omega⟩
 ·obtain ⟨v1,h1,g1,e1⟩:=h.clr hs hb fun x hx=>by rcases slotsTo_mem hx with ⟨h1,h2⟩ | ⟨h1,h2⟩;exact ⟨by omega,h2⟩;exact ⟨by omega,by omega⟩
  exact absurd (h1.clr1 hc (by rw [e1];exact hb) hj hk) hy
theorem Cv.flR {D U D' U':Set0} {b:Stt} {y:Int} (hr:FlR n L D U S y b D' U') (h:Cv S n o v) (hb:2+2*L<=blk S.sectors):y=0/\(D'=noSet/\U'=noSet)/\∃v',Cv b.S n b.o v'/\Agree L v v'/\b.S.sectors=S.sectors:=by
 cases hr with
 | first o' h0=>exact absurd (h.fdn o').1 h0
 | slots o1 y b h1 h2 h3 h4 =>
  obtain ⟨_,c1,e1⟩:=h.fdn o1
  exact absurd (c1.clrR h3 (by rw [e1];exact hb)).1 h4
 | again o1 o' b h1 h2 h3 h4 =>
  obtain ⟨_,c1,e1⟩:=h.fdn o1
  obtain ⟨_,v1,c2,_,_⟩:=c1.clrR h3 (by rw [e1];exact hb)
  exact absurd (c2.fdn o').1 h4
 | none o' h1 h2 =>
  obtain ⟨_,c1,e1⟩:=h.fdn o'
  exact ⟨rfl,⟨rfl,rfl⟩,v,c1,Agree.refl L v,e1⟩
 | all o1 o' b h1 h2 h3 h4 =>
  obtain ⟨_,c1,e1⟩:=h.fdn o1
  obtain ⟨_,v1,c2,g2,e2⟩:=c1.clrR h3 (by rw [e1];exact hb)
  obtain ⟨_,c3,e3⟩:=c2.fdn o'
  exact ⟨rfl,⟨rfl,rfl⟩,v1,c3,g2,e3.trans (e2.trans e1)⟩
theorem Cv.put {d kk:Nat} {l hd:Sh.Bs} {z o1:Int} (h:Cv S n o v) (hp:PutR S d (o d) kk l hd z o1 S') (hd1:d<n) (hkk:kk<L) (hb:2+2*L<=blk S.sectors) (hl:Sh.Sec l) (hh:Sh.Sec hd):z=0/\∃v',Cv S' n (put1 o d o1) v'/\Agree L v v'/\S'.sectors=S.sectors:=by
 obtain ⟨y1,o2,S1,h1,h2⟩:=hp
 obtain ⟨rfl,c1,e1⟩:=h.dw hd1 (by omega) hl h1
 rcases h2 with ⟨h0,_⟩ | ⟨_,h2⟩
 ·exact absurd rfl h0
 ·have h2':DW S1 d (put1 o d o2 d) (2+2*kk) hd z o1 S':=by unfold put1;rw [if_pos rfl];exact h2
  obtain ⟨rfl,c2,e2⟩:=c1.dw hd1 (by rw [e1];omega) hh h2'
  have ep:put1 (put1 o d o2) d o1=put1 o d o1:=by funext x;unfold put1;split<;>rfl
  rw [ep] at c2
  exact ⟨rfl,_,c2,(agree_put v d _ _ (by omega)).trans (agree_put _ d _ _ (by omega)),e2.trans e1⟩
theorem Cv.tail {d kk:Nat} {l hd:Sh.Bs} {a b:Stt} {D U D' U':Set0} {y:Int} (hr:RecTail d kk l hd a D U y b D' U') (h:Cv a.S n a.o v) (hd1:d<n) (hkk:kk<L) (hb:2+2*L<=blk a.S.sectors) (hl:Sh.Sec l) (hh:Sh.Sec hd):y=0/\∃v',Cv b.S n b.o v'/\Agree L v v'/\b.S.sectors=a.S.sectors:=by
 obtain ⟨_,_,z,o1,S1,hp,hx⟩:=hr
 obtain ⟨rfl,v1,c1,g1,e1⟩:=h.put hp hd1 hkk hb hl hh
 rcases hx with ⟨h0,_⟩ | ⟨_,rfl,rfl⟩
 ·exact absurd rfl h0
 ·obtain ⟨c2,_⟩:=c1.fl hd1 (shut (Sh.why S1 d) o1)
  exact ⟨(c1.calm d hd1).why,v1,c2,g1,(fl_sectors _ _).trans e1⟩
theorem freeK_lt {U:Set0} {d L:Nat} (h1:1<=L):(freeK U d L).getD 0<L:=by
 cases h:freeK U d L with
 | none=>exact h1
 | some k =>
  have:=List.mem_of_find?_eq_some h
  exact List.mem_range.1 this
theorem Cv.recR {d:Nat} {l hd:Sh.Bs} {a b:Stt} {D U D' U':Set0} {y:Int} (hr:RecR n L d l hd a D U y b D' U') (h:Cv a.S n a.o v) (hd1:d<n) (h1:1<=L) (hb:2+2*L<=blk a.S.sectors) (hl:Sh.Sec l) (hh:Sh.Sec hd):y=0/\∃v',Cv b.S n b.o v'/\Agree L v v'/\b.S.sectors=a.S.sectors:=by
 rcases hr with ⟨_,ht⟩ | ⟨_,y1,a1,D1,U1,hf,hx⟩
 ·exact h.tail ht hd1 (freeK_lt h1) hb hl hh
 ·obtain ⟨rfl,_,v1,c1,g1,e1⟩:=h.flR hf hb
  rcases hx with ⟨h0,_⟩ | ⟨_,ht⟩
  ·exact absurd rfl h0
  ·obtain ⟨hy,v2,c2,g2,e2⟩:=c1.tail ht hd1 (freeK_lt h1) (by rw [e1];exact hb) hl hh
   exact ⟨hy,v2,c2,g1.trans g2,e2.trans e1⟩
/-! ### reads -/
def togV (s:SuP) (M k st:Nat) (tk:Nat->Bool) (S:Sh.Sf):Nat->Sh.Bs
 | 0=>Sh.noughts
 | j+1=>if tk j then xorL (togV s M k st tk S j) (U.V S (numOf s M st j) (dataOf k)) else togV s M k st tk S j
theorem tog_read {tk:Nat->Bool} {m:Nat} (h:∀j,j<m->tk j=true->rdY S (numOf s M st j) k=0):(tog s M k st tk S m).2.2=0/\(tog s M k st tk S m).2.1=togV s M k st tk S m:=by
 induction m with
 | zero=>exact ⟨rfl,rfl⟩
 | succ m ih =>
  obtain ⟨h1,h2⟩:=ih fun j hj=>h j (by omega)
  unfold togV
  cases ht:tk m
  ·rw [tog_skip ht]
   exact ⟨h1,by simpa using h2⟩
  ·have hr:rdY (tog s M k st tk S m).1 (numOf s M st m) k=0:=by rw [(tog_same m).rdY];exact h m (by omega) ht
   rw [tog_take h1 ht,if_pos hr,if_pos hr,h2,(tog_same m).V]
   exact ⟨rfl,by simp⟩
theorem tog_lack {tk:Nat->Bool} {m j:Nat} (h0:(tog s M k st tk S j).2.2=0) (ht:tk j=true) (hr:rdY S (numOf s M st j) k=4\/rdY S (numOf s M st j) k=5) (hj:j<m):(tog s M k st tk S m).2.2=10:=by
 have hr':rdY (tog s M k st tk S j).1 (numOf s M st j) k=4\/rdY (tog s M k st tk S j).1 (numOf s M st j) k=5:=by rw [(tog_same j).rdY];exact hr
 have hn:rdY (tog s M k st tk S j).1 (numOf s M st j) k≠0:=by rcases hr' with e | e<;>rw [e]<;>decide
 have e1:(tog s M k st tk S (j+1)).2.2=10:=by
  rw [tog_take h0 ht]
  show (if _ then _ else _)=_
  rw [if_neg hn,if_pos hr']
 rw [tog_stop (j:=j+1) (n:=m) (by rw [e1];decide) (by omega),e1]
end
def pV (s:SuP) (M k st:Nat) (tk:Nat->Bool) (v:Nat->Nat->Sh.Bs):Nat->Sh.Bs
 | 0=>Sh.noughts
 | j+1=>if tk j then xorL (pV s M k st tk v j) (v (numOf s M st j) k) else pV s M k st tk v j
section
variable {S S' T:Sh.Sf} {n L M St k st:Nat} {o:Nat->Int} {v v':Nat->Nat->Sh.Bs} {s:SuP} {tk:Nat->Bool}
theorem pV_congr {m:Nat} (h:∀j,j<m->tk j=true->v (numOf s M st j) k=v' (numOf s M st j) k):pV s M k st tk v m=pV s M k st tk v' m:=by
 induction m with
 | zero=>rfl
 | succ m ih =>
  unfold pV
  rw [ih fun j hj=>h j (by omega)]
  cases ht:tk m
  ·rfl
  ·rw [h m (by omega) ht]
theorem togV_eq {m:Nat} (h:∀j,j<m->U.V S (numOf s M st j) (dataOf k)=v (numOf s M st j) k):togV s M k st tk S m=pV s M k st tk v m:=by
 induction m with
 | zero=>rfl
 | succ m ih =>
  unfold togV pV
  rw [ih fun j hj=>h j (by omega),h m (by omega)]
theorem pV_sec {m:Nat} (h:∀j,j<m->Sh.Sec (v (numOf s M st j) k)):Sh.Sec (pV s M k st tk v m):=by
 induction m with
 | zero=>exact Sh.noughts_sec
 | succ m ih =>
  unfold pV
  split
  ·exact xorL_sec (ih fun j hj=>h j (by omega)) (h m (by omega))
  ·exact ih fun j hj=>h j (by omega)
theorem Cv.tog (h:Cv S n o v) (hk:k<blk S.sectors) {m:Nat} (hnum:∀j,j<m->numOf s M st j<n):(U.tog s M k st tk S m).2.2=0/\(U.tog s M k st tk S m).2.1=pV s M k st tk v m:=by
 obtain ⟨h1,h2⟩:=tog_read (s:=s) (M:=M) (k:=k) (st:=st) (S:=S) (tk:=tk) (m:=m) (fun j hj _=>h.rd (hnum j hj) hk)
 exact ⟨h1,h2.trans (togV_eq fun j hj=>h.V (hnum j hj) k)⟩
theorem Cv.part (h:Cv S n o v) (hk:k<blk S.sectors) {a b:Nat} (hnum:∀j,j<M->numOf s M st j<n):(partR s M k st a b S).2.2=0/\(partR s M k st a b S).2.1=pV s M k st (tkNeither a b) v M:=by
 obtain ⟨h1,h2⟩:=h.tog (s:=s) (M:=M) (st:=st) (tk:=tkNeither a b) hk hnum
 have e:partR s M k st a b S=U.tog s M k st (tkNeither a b) S M:=by
  unfold partR
  rw [if_pos (by rw [h1];decide)]
 rw [e]
 exact ⟨h1,h2⟩
structure Wrv (s:SuP) (L M k st a b:Nat) (x:Sh.Bs) (v v':Nat->Nat->Sh.Bs):Prop where
 data:v' (numOf s M st a) k=x
 par:v' (numOf s M st b) k=xorL (pV s M k st (tkNeither a b) v M) x
 rest:∀d j,2+2*L<=j->((d=numOf s M st a\/d=numOf s M st b)/\j=k)\/v' d j=v d j
theorem Cv.wb {a pl b:Nat} {x:Sh.Bs} {D U D' U':Set0} {y:Int} {e:Stt} (h:Cv S n o v) (hr:WbR n L s M k st a pl b x D U S o y e D' U') (hk:k<blk S.sectors) (hk2:2+2*L<=k) (hnum:∀j,j<M->numOf s M st j<n) (ha:a<M) (hb:b<M) (hne:numOf s M st a≠numOf s M st b) (hx:Sh.Sec x) (l1:1<=L) :
  y=0/\∃v',Cv e.S n e.o v'/\e.S.sectors=S.sectors/\Wrv s L M k st a b x v v':=by
 obtain ⟨p1,p2⟩:=h.part (s:=s) (M:=M) (st:=st) (a:=a) (b:=b) hk hnum
 have hP:Sh.Sec (partR s M k st a b S).2.1:=by rw [p2];exact pV_sec fun j hj=>h.sec _ (hnum j hj) k hk
 have hS:Same S (partR s M k st a b S).1:=partR_same
 have c0:Cv (partR s M k st a b S).1 n o v:=h.same hS
 have hb0:2+2*L<=blk (partR s M k st a b S).1.sectors:=by rw [hS.sectors];omega
 have hbN:=hnum b hb
 have haN:=hnum a ha
 have rec1:∀{y1:Int} {a1:Stt} {D1 U1:Set0},RecR n L (numOf s M st b) (partR s M k st a b S).2.1 (headL (numF st pl (Nums.sum 0 (partR s M k st a b S).2.1))) ⟨(partR s M k st a b S).1,o⟩ D U y1 a1 D1 U1->y1=0/\∃v1,Cv a1.S n a1.o v1/\Agree L v v1/\a1.S.sectors=S.sectors:=by
  intro y1 a1 D1 U1 hr
  obtain ⟨e0,v1,c1,g1,e1⟩:=Cv.recR (a:=⟨(partR s M k st a b S).1,o⟩) hr c0 hbN l1 hb0 hP ⟨headL_length _,headL_small _⟩
  exact ⟨e0,v1,c1,g1,e1.trans hS.sectors⟩
 cases hr with
 | lack h0=>exact absurd p1 h0
 | recd y1 a1 D1 U1 h0 hrec hy=>exact absurd (rec1 hrec).1 hy
 | data y1 a1 D1 U1 z S2 h0 hrec hd hy =>
  obtain ⟨_,v1,c1,g1,e1⟩:=rec1 hrec
  exact absurd (c1.dw haN (by rw [e1];exact hk) hx hd).1 hy
 | both y1 a1 D1 U1 z z3 S2 S3 h0 hrec hd hp =>
  obtain ⟨_,v1,c1,g1,e1⟩:=rec1 hrec
  obtain ⟨_,c2,e2⟩:=c1.dw haN (by rw [e1];exact hk) hx hd
  obtain ⟨hy,c3,e3⟩:=c2.dw hbN (by rw [e2,e1];exact hk) (xorL_sec hP hx) hp
  refine ⟨hy,_,c3,e3.trans (e2.trans e1),⟨?_,?_,fun d j hj=>?_⟩⟩
  ·unfold put1 upd
   rw [if_neg hne,if_pos rfl]
   exact if_pos rfl
  ·rw [<- p2]
   unfold put1 upd
   rw [if_pos rfl]
   exact if_pos rfl
  ·by_cases hjk:j=k
   ·by_cases h1:d=numOf s M st a
    ·exact .inl ⟨.inl h1,hjk⟩
    ·by_cases h2:d=numOf s M st b
     ·exact .inl ⟨.inr h2,hjk⟩
     ·right
      unfold put1
      rw [if_neg h2,if_neg h1]
      exact g1 d j hj
   ·right
    unfold put1 upd
    by_cases e1:d=numOf s M st b
    ·subst e1
     rw [if_pos rfl,if_neg (Ne.symm hne)]
     rw [if_neg hjk]
     exact g1 _ j hj
    ·rw [if_neg e1]
     by_cases e2:d=numOf s M st a
     ·subst e2
      rw [if_pos rfl]
      rw [if_neg hjk]
      exact g1 _ j hj
     ·rw [if_neg e2]
      exact g1 _ j hj
theorem Cv.wt {a pl b:Nat} {x:Sh.Bs} {D U D' U':Set0} {y:Int} {t e:Stt} (h:Cv t.S n t.o v) (hr:WrT n L s M k st a pl b x D U t y e D' U') (hk:k<blk t.S.sectors) (hk2:2+2*L<=k) (hnum:∀j,j<M->numOf s M st j<n) (ha:a<M) (hb:b<M) (hne:numOf s M st a≠numOf s M st b) (hx:Sh.Sec x) (l1:1<=L) :
  y=0/\∃v',Cv e.S n e.o v'/\e.S.sectors=t.S.sectors/\Wrv s L M k st a b x v v':=by
 have da:(dk t.S (numOf s M st a)).dead=false:=(h.calm _ (hnum a ha)).alive
 have db:(dk t.S (numOf s M st b)).dead=false:=(h.calm _ (hnum b hb)).alive
 cases hr with
 | io h1=>rw [da] at h1;cases h1
 | data y z S2 h1 h2=>rw [db] at h2;cases h2
 | par y e D' U' h1=>rw [da] at h1;cases h1
 | both y e D' U' h1 h2 hw=>exact h.wb hw hk hk2 hnum ha hb hne hx l1
theorem hasB_yes {m:Nat} (h:m<St*(M-1)):hasB M St (m:Int)=true:=by
 unfold hasB
 rw [decide_eq_true]
 omega
theorem Cv.wr {m:Nat} {x:Sh.Bs} {D U D' U':Set0} {y:Int} {e:Stt} (h:Cv S n o v) (hf:Fits n L s M St S) (h0:0<n) (hr:WrR n L s M St (m:Int) x D U S o y e D' U') (hm:m<St*(M-1)) (ha:meOf M m<M) (hb:paOf M m<M) (hne:numOf s M (stOf M m) (meOf M m)≠numOf s M (stOf M m) (paOf M m)) (hst:stOf M m<St) (hx:Sh.Sec x) :
  y=0/\∃v',Cv e.S n e.o v'/\e.S.sectors=S.sectors/\Wrv s L M (2+2*L+stOf M m) (stOf M m) (meOf M m) (paOf M m) x v v':=by
 have hon:S.off=false:=(h.calm 0 h0).on
 have hnd:=hf.need
 have hnum:∀j,j<M->numOf s M (stOf M m) j<n:=fun j hj=>hf.num_lt _ hj
 cases hr with
 | refused h1 =>
  refine absurd ?_ h1
  rw [hasB_yes hm]
  unfold refY
  rw [hon]
  rfl
 | flush m' y t D1 U1 e1 h1 h2 h3 hfl hy=>exact absurd (h.flR hfl (by omega)).1 hy
 | after m' t D1 U1 y e D' U' e1 h1 h2 h3 hfl hw =>
  obtain rfl:m'=m:=by omega
  obtain ⟨_,_,v1,c1,g1,s1⟩:=h.flR hfl (by omega)
  obtain ⟨hy,v2,c2,s2,w2⟩:=c1.wt hw (by rw [s1];omega) (by omega) hnum ha hb hne hx hf.l1
  refine ⟨hy,v2,c2,s2.trans s1,⟨w2.data,?_,fun d j hj=>?_⟩⟩
  ·rw [w2.par,pV_congr fun j hj _=>g1 _ _ (by omega)]
  ·rcases w2.rest d j hj with e | e
   ·exact .inl e
   ·exact .inr (e.trans (g1 d j hj))
 | first m' y e D' U' e1 h1 h2 h3 hw =>
  obtain rfl:m'=m:=by omega
  exact h.wt (t:=⟨S,o⟩) hw (by show _<blk S.sectors;omega) (by omega) hnum ha hb hne hx hf.l1
/-! ### a disk dies -/
theorem dk_kill (S:Sh.Sf) (d e:Nat) (hne:e≠d):dk (S.doKill d) e=dk S e:=by
 unfold dk Sh.Sf.doKill
 exact getD_set_ne _ hne
theorem Cv.kill_rd (h:Cv S n o v) {d e:Nat} (he:e<n) (hne:e≠d) (hk:k<blk S.sectors):rdY (S.doKill d) e k=0/\U.V (S.doKill d) e (dataOf k)=v e k:=by
 have hV:∀m,U.V (S.doKill d) e m=U.V S e m:=fun m=>by
  have:=dk_kill S d e hne
  unfold dk at this
  unfold U.V
  rw [this]
 have hw:Sh.why (S.doKill d) e=Sh.why S e:=by
  have:=dk_kill S d e hne
  unfold dk at this
  unfold Sh.why
  rw [this]
  rfl
 have hr:=h.rd he hk
 unfold rdY goodAt at hr ⊢
 rw [hw,hV,hV]
 exact ⟨hr,h.V he k⟩
theorem Cv.kill_dead (h:Cv S n o v) {d:Nat} (hd:d<n):rdY (S.doKill d) d k=4:=by
 have hc:=h.calm d hd
 have e:(S.doKill d).disks.getD d default={ S.disks.getD d default with dead:=true }:=by
  unfold Sh.Sf.doKill
  have:=hc.lt
  simp [List.getD,this]
 have hw:Sh.why (S.doKill d) d=4:=by
  unfold Sh.why
  rw [e]
  show (if S.off=true then _ else _)=_
  rw [hc.on]
  rfl
 unfold rdY
 rw [hw]
 rfl
theorem Cv.rd_dead {m:Nat} {y:Int} {X:Sh.Bs} {t:Stt} (h:Cv S n o v) (hf:Fits n L s M St S) {d:Nat} (hd:d<n) (hr:RdR L s M St (m:Int) (S.doKill d) o y X t) (hm:m<St*(M-1)) (hme:numOf s M (stOf M m) (meOf M m)=d) (hst:stOf M m<St) (hinj:∀j,j<M->j≠meOf M m->numOf s M (stOf M m) j≠d) :
  y=0/\X=pV s M (2+2*L+stOf M m) (stOf M m) (tkNot (meOf M m)) v M/\Same (S.doKill d) t.S/\t.o=o:=by
 have hon:(S.doKill d).off=false:=(h.calm d hd).on
 have hnd:=hf.need
 have hnum:∀j,j<M->numOf s M (stOf M m) j<n:=fun j hj=>hf.num_lt _ hj
 have hk:2+2*L+stOf M m<blk S.sectors:=by omega
 have hdead:rdY (S.doKill d) (numOf s M (stOf M m) (meOf M m)) (2+2*L+stOf M m)=4:=by rw [hme];exact h.kill_dead hd
 have hsh:(shouldR s M (2+2*L+stOf M m) (stOf M m) (meOf M m) (S.doKill d)).2.2=0/\(shouldR s M (2+2*L+stOf M m) (stOf M m) (meOf M m) (S.doKill d)).2.1=pV s M (2+2*L+stOf M m) (stOf M m) (tkNot (meOf M m)) v M:=by
  unfold shouldR
  obtain ⟨h1,h2⟩:=tog_read (s:=s) (M:=M) (k:=2+2*L+stOf M m) (st:=stOf M m) (S:=Looked (S.doKill d) (numOf s M (stOf M m) (meOf M m))) (tk:=tkNot (meOf M m)) (m:=M) (fun j hj ht=>by
   rw [rdY_looked]
   exact (h.kill_rd (hnum j hj) (hinj j hj (by unfold tkNot at ht;simpa using ht)) hk).1)
  refine ⟨h1,h2.trans ?_⟩
  clear h1 h2
  have:∀q,q<=M->togV s M (2+2*L+stOf M m) (stOf M m) (tkNot (meOf M m)) (Looked (S.doKill d) (numOf s M (stOf M m) (meOf M m))) q=pV s M (2+2*L+stOf M m) (stOf M m) (tkNot (meOf M m)) v q:=by
   intro q hq
   induction q with
   | zero=>rfl
   | succ q ih =>
    unfold togV pV
    rw [ih (by omega)]
    cases ht:tkNot (meOf M m) q
    ·rfl
    ·rw [looked_V,(h.kill_rd (hnum q (by omega)) (hinj q (by omega) (by unfold tkNot at ht;simpa using ht)) hk).2]
  exact this M (Nat.le_refl M)
 cases hr with
 | refused h1 =>
  refine absurd ?_ h1
  rw [hasB_yes hm]
  unfold refY
  rw [hon]
  rfl
 | there m' y X t e1 h1 h2 ht =>
  obtain rfl:m'=m:=by omega
  cases ht with
  | plain hp=>exact absurd (.inl hdead) hp
  | lack _ h0=>exact absurd hsh.1 h0
  | dead _ _=>exact ⟨rfl,hsh.2,((Same.refl _).looked _).trans (tog_same M),rfl⟩
  | bad z x S2 h5=>rw [hdead] at h5;cases h5
  | mend x S2 h5=>rw [hdead] at h5;cases h5
end
theorem blk40':blk 40=37:=by decide
section
variable {J:Vk} {w w':World} {s:SuP} {o:Nat->Int} {S:Sh.Sf} {F:Nat->Prop} {D U:Set0} {M St:Nat}
theorem Vr.cv (h:Vr J w s o S F D U) (hc:Calms S J.n) (hj:∀d,d<J.n->Jp S d (o d) (fun _=>True)) (hn:S.disks.length=J.n):Cv S J.n o (fun d=>vals (dk S d)) :=
 ⟨hc,hj,fun _ _=>rfl,fun d hd _ hk=>V_sec h.vo.ds.on.shelf (hj d hd).one.lt (sum_of_lt hk).1,hn⟩
theorem vkill (h:Vr J w s o S F D U) (d:Nat) (hd:d<S.disks.length):Calls Tryz.prog 21 #[.pointer (some ⟨J.p,0,none⟩),.int .i64 d] w fun e w'=>e=.returned (.int .i64 0)/\RGoes J w w' s o (S.doKill d) F D U:=by
 refine (Sh.kill_done w J.p d h.vo.ds.on.shelf hd).mono ?_
 rintro e w' ⟨rfl,hl⟩
 exact ⟨rfl,h.goesV (h.vo.goes (h.vo.ds.left hl))⟩
theorem numOf_id {s:SuP} (hs:s.spare=-1) (M st m:Nat):numOf s M st m=m:=by
 unfold numOf
 rw [if_neg]
 rw [hs]
 omega
theorem kill_len (S:Sh.Sf) (d:Nat):(S.doKill d).disks.length=S.disks.length:=by
 unfold Sh.Sf.doKill
 simp
theorem kill_lens {S:Sh.Sf} {m:Nat} (h:∀x∈S.disks,x.waits.length<=m) (d:Nat):∀x∈(S.doKill d).disks,x.waits.length<=m:=by
 intro x hx
 unfold Sh.Sf.doKill at hx
 rcases List.mem_or_eq_of_mem_set hx with hx | rfl
 ·exact h x hx
 ·show (S.disks.getD d default).waits.length<=m
  by_cases hd:d<S.disks.length
  ·exact h _ (Sh.getD_mem hd)
  ·rw [List.getD_eq_getElem?_getD,List.getElem?_eq_none (by omega)]
   exact Nat.zero_le _
theorem kill_is (S:Sh.Sf) (d:Nat) (hd:d<S.disks.length):(dk (S.doKill d) d).dead=true:=by
 unfold dk Sh.Sf.doKill
 simp [List.getD,hd]
theorem conv_bytes {w0 w:World} {A:Option Addr} {c:Nat} {l:Sh.Bs} {s:ByteArray} (h:Sh.Bytes w0 w A l) (hs:Sh.strL l=s) (W:World) (hb:Below w.heap.size w W):(convert 41 9 (.slice A 128 c)).run Tryz.prog W=.ok (.string s) W :=
 Sh.conv_grown (F:=fun _=>False) ⟨h.1,fun _ _ e=>e⟩ hs W hb
end
def UsedOf (U U':Set0):Prop:=U'=U\/U'=noSet\/(∃kl,U'=U.put kl one0)\/∃kl,U'=noSet.put kl one0
theorem FlR.usedOf {n L:Nat} {D U D' U':Set0} {S:Sh.Sf} {y:Int} {b:Stt} (h:FlR n L D U S y b D' U'):U'=U\/U'=noSet:=by
 cases h with
 | first o' h=>exact .inl rfl
 | slots o1 y b h1 h2 h3 h4=>exact .inl rfl
 | again o1 o' b h1 h2 h3 h4=>exact .inl rfl
 | none o' h1 h2=>exact .inr rfl
 | all o1 o' b h1 h2 h3 h4=>exact .inr rfl
theorem RecR.usedOf {n L d:Nat} {l hd:Sh.Bs} {a b:Stt} {D U D' U':Set0} {y:Int} (h:RecR n L d l hd a D U y b D' U'):UsedOf U U':=by
 rcases h with ⟨_,_,rfl,_⟩ | ⟨_,y1,a1,D1,U1,h1,⟨_,_,_,_,rfl⟩ | ⟨_,_,rfl,_⟩⟩
 ·exact .inr (.inr (.inl ⟨_,rfl⟩))
 ·exact h1.usedOf.imp id .inl
 ·rcases h1.usedOf with rfl | rfl
  ·exact .inr (.inr (.inl ⟨_,rfl⟩))
  ·exact .inr (.inr (.inr ⟨_,rfl⟩))
theorem WrT.usedOf {nn LL M k st a pl b:Nat} {s:SuP} {x:Sh.Bs} {D U D' U':Set0} {t e:Stt} {y:Int} (h:WrT nn LL s M k st a pl b x D U t y e D' U'):UsedOf U U':=by
 cases h with
 | io=>exact .inl rfl
 | data=>exact .inl rfl
 | par _ _ _ _ _ _ hw=>cases hw with
  | lack=>exact .inl rfl
  | done=>exact .inl rfl
 | both _ _ _ _ _ _ hw=>cases hw with
  | lack=>exact .inl rfl
  | recd _ _ _ _ _ hr=>exact hr.usedOf
  | data _ _ _ _ _ _ _ hr=>exact hr.usedOf
  | both _ _ _ _ _ _ _ _ _ hr=>exact hr.usedOf
theorem WrR.usedOf {nn LL M St:Nat} {s:SuP} {n:Int} {x:Sh.Bs} {D U D' U':Set0} {S:Sh.Sf} {o:Nat->Int} {e:Stt} {y:Int} (h:WrR nn LL s M St n x D U S o y e D' U'):UsedOf U U':=by
 cases h with
 | refused=>exact .inl rfl
 | flush _ _ _ _ _ _ _ _ _ hf=>exact hf.usedOf.imp id .inl
 | after _ _ _ _ _ _ _ _ _ _ _ _ hf hw =>
  rcases hf.usedOf with rfl | rfl
  ·exact hw.usedOf
  ·rcases hw.usedOf with e | e | e | e
   ·exact .inr (.inl e)
   ·exact .inr (.inl e)
   ·exact .inr (.inr (.inr e))
   ·exact .inr (.inr (.inr e))
 | first _ _ _ _ _ _ _ _ _ hw=>exact hw.usedOf
theorem size_noput (w:World) (kl:Lit):Maps.size (DataW.put noSet kl one0)<=1:=size_put_le (empty_set (k:=121) (heap_alloc_new w (.map #[] 0))) lawSlot
theorem UsedOf.size {U U':Set0} {w:World} {b:Nat} (h:UsedOf U U') (hs:SetIs w 121 b U):Maps.size U'<=Maps.size U+1:=by
 rcases h with rfl | rfl | ⟨kl,rfl⟩ | ⟨kl,rfl⟩
 ·omega
 ·exact Nat.zero_le _
 ·exact size_put_le hs lawSlot
 ·have:=size_noput w kl
  omega
theorem xorL_ext {a b:List Nat} (hl:a.length=b.length) (h:∀i,i<a.length->a.getD i 0=b.getD i 0):a=b:=by
 refine List.ext_getElem hl fun i h1 h2=>?_
 have:=h i h1
 simpa [List.getD,h1,h2] using this
theorem xorL_len (a b:List Nat):(xorL a b).length=a.length:=by unfold xorL;rw [tab_length]
theorem xorL_at (a b:List Nat) (i:Nat) (h:i<a.length):(xorL a b).getD i 0=a.getD i 0 ^^^ b.getD i 0:=by
 unfold xorL
 exact tab_get _ _ _ h
theorem noughts_at (i:Nat):Sh.noughts.getD i 0=0:=by
 unfold Sh.noughts
 rw [List.getD_eq_getElem?_getD,List.getElem?_replicate]
 split<;>rfl
theorem back3 {p x:Sh.Bs} (hx:Sh.Sec x):xorL (xorL Sh.noughts (xorL (xorL Sh.noughts p) x)) p=x:=by
 have h0:Sh.noughts.length=128:=Sh.noughts_sec.1
 refine xorL_ext (by rw [xorL_len,xorL_len,h0,hx.1]) fun i hi=>?_
 rw [xorL_len,xorL_len,h0] at hi
 rw [xorL_at _ _ _ (by rw [xorL_len,h0];exact hi),xorL_at _ _ _ (by rw [h0];exact hi),xorL_at _ _ _ (by rw [xorL_len,h0];exact hi),xorL_at _ _ _ (by rw [h0];exact hi),noughts_at,Nat.zero_xor,Nat.zero_xor,Nat.xor_comm (p.getD i 0) (x.getD i 0),Nat.xor_assoc,Nat.xor_self,Nat.xor_zero]
theorem born_fits {S:Sh.Sf} {n:Nat} (hn:n=3) (h1:S.disks.length=n) (h2:S.sectors=40):Fits n 1 (newSaid 3 2 1) 3 2 S :=
 ⟨rfl,rfl,rfl,by decide,by decide,by decide,by decide,by decide,by decide,.inl hn,.inl rfl,⟨by decide,by decide⟩,h1,by rw [h2,blk40'];decide⟩
theorem three {v v':Nat->Nat->Sh.Bs} {x:Sh.Bs} (hx:Sh.Sec x) (h:Wrv (newSaid 3 2 1) 1 3 5 1 0 1 x v v'):pV (newSaid 3 2 1) 3 5 1 (tkNot 0) v' 3=x:=by
 have h0:∀m,numOf (newSaid 3 2 1) 3 1 m=m:=fun m=>numOf_id rfl 3 1 m
 have hpar:=h.par
 have h2:=h.rest 2 5 (by decide)
 rw [h0,h0] at h2
 rw [h0] at hpar
 have e2:v' 2 5=v 2 5:=by
  rcases h2 with ⟨e,_⟩ | e
  ·omega
  ·exact e
 have e1:pV (newSaid 3 2 1) 3 5 1 (tkNeither 0 1) v 3=xorL Sh.noughts (v 2 5):=by
  simp [pV,tkNeither,h0]
 rw [e1] at hpar
 have e3:pV (newSaid 3 2 1) 3 5 1 (tkNot 0) v' 3=xorL (xorL Sh.noughts (v' 1 5)) (v' 2 5):=by
  simp [pV,tkNot,h0]
 rw [e3,hpar,e2]
 exact back3 hx
theorem wrv_on {s:SuP} {L M k st a b:Nat} {x:Sh.Bs} {v v1 v2:Nat->Nat->Sh.Bs} (h:Wrv s L M k st a b x v v1) (hg:Agree L v1 v2) (hk:2+2*L<=k:=by decide):Wrv s L M k st a b x v v2 :=
 ⟨(hg _ _ hk).trans h.data,(hg _ _ hk).trans h.par,fun d j hj=>(h.rest d j hj).imp id fun e=>(hg d j hj).trans e⟩
theorem field_st (x0 x1 x2 x3 x4 x5:Value) (w:World):(Instr.field 64 (.agg #[x0,x1,x2,x3,x4,x5]) 2).run Tryz.prog w=.ok x2 w:=by kernel_rfl
set_option maxRecDepth 100000 in
set_option maxHeartbeats 8000000 in
theorem lives_true (w:World) (hT:Tabs w) (hFl:Flds w) (hWi:Go.Proofs.YtgebkmpmnjhceaaGreatDoor.S.Wid w):Calls Tryz.prog 8 #[] w fun e w'=>e=.returned (.bool true)/\Below w.heap.size w w':=by
 have hTB:=hT.size
 have hFB:=hFl.size
 have hWB:=hWi.size
 go_enter Tryz.func8,Tryz.ntmps8
 go_wp2_with fail
 refine (Sh.new_ok 3 40 w (by decide) (by decide) (by decide) (by decide)).mono ?_
 rintro e w1 ⟨p,F1,rfl,hS,hF,hb⟩
 have a1:Sh.At w.heap.size w w1 p (Sh.newSf 3 40) F1:=⟨hS,hF,hb,hb.size⟩
 have HC:=hid (create_new a1 hT hTB hWi hWB 3 2 1 (by decide) (by decide) (by decide) (by decide) (by decide) (by decide) (.inl rfl) (by rw [blk40'];decide))
 clear hS hF hb a1
 go_wp2_with fail
 refine HC.out.mono ?_
 rintro e w2 ⟨J,F2,o2,S2,rfl,hB,hW,rfl,hn,hL,V2,hbn,_⟩
 have hFi:=born_fits (S:=S2) hn (hbn.len.trans hn.symm) hbn.sectors
 have hcv:=V2.cv (by rw [hn];exact hbn.calm) (fun d hd=>((hbn.disk d (by rw [<- hn];exact hd)).1).more fun _ _=>trivial) (hbn.len.trans hn.symm)
 have hTJ:Tabs J.W:=by rw [hW];exact hT
 have hFJ:Flds J.W:=by rw [hW];exact hFl
 rw [<- hB] at hTB hFB
 have HF2:Hid (Fits J.n J.L (newSaid 3 2 1) 3 2 S2):=hid (by rw [hL];exact hFi)
 have HK2:=hid (And.intro V2 (And.intro hcv hbn.waits))
 have HJ:=hid (And.intro hB (And.intro hW (And.intro hn hL)))
 have HSC:=hid hbn.sectors
 have HSL:Hid (S2.disks.length=J.n):=hid (hbn.len.trans hn.symm)
 clear V2 hbn hFi hcv HC hB hW hn hL
 go_wp2_with fail
 refine (Sh.sector_any w2 8 (by decide)).mono ?_
 rintro e w3 ⟨rfl,ho3,hb3⟩
 have V3:=HK2.out.1.grown hb3
 have hsec:Sh.Sec (Sh.secOf 8):=Sh.secOf_sec (by decide)
 have hbs:Sh.Beside w3 (AllV J F2) (some ⟨w2.heap.size,0,none⟩) (Sh.secOf 8):=⟨Sh.Reads.of_own ho3,fun x hx e=>by
  injection hx with hx
  subst hx
  exact Nat.lt_irrefl _ (HK2.out.1.lt _ e)⟩
 generalize hS8:Sh.strL (Sh.secOf 8)=s8 at *
 have HS8:=hid hS8
 generalize hx8:Sh.secOf 8=x8 at *
 have HXE:=hid hx8
 clear hx8
 have HW:=hid (vWrite_any V3 HF2.out hTJ hTB hFJ hFB 3 (c:=128) hsec hbs HK2.out.2.2 (mm:=100) (by decide) (by decide) (by decide))
 have HX8:=hid hsec
 clear V3 hbs ho3 hb3 hsec
 go_wp2_with fail
 refine HW.out.mono ?_
 rintro e w4 ⟨y4,rfl,t4,D4,U4,hw4,F4,V4,m4⟩
 obtain ⟨rfl,v4,c4,s4,wv4⟩:=HK2.out.2.1.wr (m:=3) HF2.out (by have:=HJ.out;omega) hw4 (by decide) (by decide) (by decide) (by rw [numOf_id rfl,numOf_id rfl];decide) (by decide) HX8.out
 have hz4:=hw4.usedOf.size HK2.out.1.used
 have HF4:Hid (Fits J.n J.L (newSaid 3 2 1) 3 2 t4.S):=hid (HF2.out.same (c4.cnt.trans HSL.out.symm) s4)
 have HFL:=hid (vFlush_any V4 HF4.out hTJ hTB (mm:=100) (fun x hx=>Nat.le_trans (c4.lens x hx) (by decide)) (Nat.le_trans hz4 (by decide)) (by decide))
 have HK4:=hid (And.intro c4 (And.intro wv4 s4))
 clear hw4 V4 m4 c4 s4 wv4 hz4 HW HF2
 go_wp2_with fail
 refine HFL.out.mono ?_
 rintro e w5 ⟨y5,rfl,t5,D5,U5,hf5,F5,V5,m5⟩
 obtain ⟨rfl,_,v5,c5,g5,s5⟩:=HK4.out.1.flR hf5 (by have:=HF4.out.need;omega)
 have HK5:=hid (And.intro c5 (And.intro g5 (s5.trans HK4.out.2.2)))
 have HF5:Hid (Fits J.n J.L (newSaid 3 2 1) 3 2 t5.S):=hid (HF4.out.same (c5.cnt.trans HK4.out.1.cnt.symm) s5)
 have HKI:=hid (vkill V5 0 (by rw [c5.cnt,HJ.out.2.2.1];decide))
 clear hf5 V5 m5 c5 g5 s5 HFL
 go_wp2_with fail
 refine HKI.out.mono ?_
 rintro e w6 ⟨rfl,F6,V6,m6⟩
 have HF6:Hid (Fits J.n J.L (newSaid 3 2 1) 3 2 (t5.S.doKill 0)):=hid (HF5.out.same (kill_len _ _) rfl)
 have HR:=hid (vRead_any V6 HF6.out hTJ hTB 3 (mm:=100) (kill_lens (fun x hx=>Nat.le_trans (HK5.out.1.lens x hx) (by decide)) 0) (by decide))
 clear V6 m6 HKI
 go_wp2_with fail
 refine HR.out.mono ?_
 rintro e w7 ⟨y7,A7,n7,c7,rfl,X7,t7,F7,hr7,V7,m7,hX7⟩
 have HRD:=hid (HK5.out.1.rd_dead (m:=3) HF5.out (d:=0) (by rw [HJ.out.2.2.1];decide) hr7 (by decide) (numOf_id rfl _ _ _) (by decide) (fun j hj hne=>by rw [numOf_id rfl];exact hne))
 obtain ⟨rfl,hX,hs7,ho7⟩:=HRD.out
 have hwv:Wrv (newSaid 3 2 1) 1 3 5 1 0 1 x8 (fun d=>vals (dk S2 d)) v4:=by
  have:=HK4.out.2.1
  rw [HJ.out.2.2.2] at this
  exact this
 have hX8:X7=x8:=by
  have h3:=three HX8.out (wrv_on hwv (by have:=HK5.out.2.1;rw [HJ.out.2.2.2] at this;exact this))
  rw [hX,HJ.out.2.2.2]
  exact h3
 obtain ⟨n7e,hby7,_,hap7⟩:n7=128/\Sh.Bytes w6 w7 A7 X7/\Sh.Sec X7/\∀a,A7=some a->¬AllV J F7 a.block:=by
  rcases hX7 with ⟨_,h2,h3,h4,h5⟩ | ⟨h1,_⟩
  ·exact ⟨h2,h3,h4,h5⟩
  ·exact absurd rfl h1
 subst n7e
 rw [hX8] at hby7
 have HF7:Hid (Fits J.n J.L (newSaid 3 2 1) 3 2 t7.S):=hid (HF6.out.same hs7.len hs7.sectors)
 have HWH:=hid (whole_any V7 HF7.out hTJ hTB 0 (by decide))
 have hlack:(tog (newSaid 3 2 1) 3 (2+2*J.L+0) 0 (fun _=>true) t7.S 3).2.2=10:=tog_lack (j:=0) rfl rfl (.inl (by rw [hs7.rdY,numOf_id rfl];exact HK5.out.1.kill_dead (by rw [HJ.out.2.2.1];decide))) (by decide)
 have hsame8:Same t7.S (tog (newSaid 3 2 1) 3 (2+2*J.L+0) 0 (fun _=>true) t7.S 3).1:=tog_same 3
 generalize tog (newSaid 3 2 1) 3 (2+2*J.L+0) 0 (fun _=>true) t7.S 3=r8 at *
 obtain ⟨S8,X8r,y8⟩:=r8
 simp only at hlack hsame8
 subst hlack
 have hwv8:wholeV (S8,X8r,10)=.tuple #[.bool false,.int .i64 0]:=rfl
 rw [hwv8] at HWH
 have HB7:=hid (And.intro hby7 hap7)
 have HS7:=hid (And.intro hs7 hsame8)
 clear hr7 V7 m7 hX7 hX hs7 ho7 hwv hX8 hby7 hap7 hsame8 hwv8 HR HRD
 go_wp2_with fail
 refine HWH.out.mono ?_
 rintro e w8 ⟨rfl,V8,on8⟩
 have hby8:=bytes_only HB7.out.1 HB7.out.2 on8
 have hs8:=HS7.out.1.trans HS7.out.2
 have HF8:Hid (Fits J.n J.L (newSaid 3 2 1) 3 2 S8):=hid (HF7.out.same HS7.out.2.len HS7.out.2.sectors)
 have hdead:∀m,m<3->memDead (newSaid 3 2 1) 3 2 S8 m=decide (m=0):=fun m hm=>by
  unfold memDead
  rw [numOf_id rfl,numOf_id rfl,Bool.or_self]
  have e:dk S8 m=dk (t5.S.doKill 0) m:=by unfold dk;rw [hs8.disks]
  rw [e]
  by_cases h0:m=0
  ·subst h0
   rw [kill_is _ _ (by rw [HK5.out.1.cnt,HJ.out.2.2.1];decide)]
   rfl
  ·rw [dk_kill _ _ _ h0,decide_eq_false h0]
   exact (HK5.out.1.calm m (by rw [HJ.out.2.2.1];exact hm)).alive
 have hlen:(deads (newSaid 3 2 1) 3 2 S8 3).length=1:=by
  simp [deads,List.range_succ,hdead]
 have HSZ:Hid (∀W,Below w8.heap.size w8 W->Calls Tryz.prog 25 #[.pointer (some ⟨J.v,0,none⟩)] W fun e w'=>e=.returned (.int .i64 4)/\Below W.heap.size W w'):=hid fun W hb=>vsize (V8.grown hb) HF8.out
 have HST:Hid (∀W,Below w8.heap.size w8 W->Calls Tryz.prog 26 #[.pointer (some ⟨J.v,0,none⟩)] W fun e w'=>∃(A:Option Addr) (c:Nat),e=.returned (.agg #[.int .i64 3,.int .i64 2,.slice A 1 c,.int .i64 (-1),.int .i64 0,.int .i64 0])/\Below W.heap.size W w'):=hid fun W hb=>by
  have:=status_any (V8.grown hb) HF8.out
  rw [hlen] at this
  exact this
 have t1:=fun W (hb:Below w8.heap.size w8 W)=>conv_bytes (c:=c7) hby8 HS8.out W hb
 have HB8:Hid (Below w.heap.size w w8):=hid (by have:=V8.bel;rw [HJ.out.1,HJ.out.2.1] at this;exact this)
 have hfs:=field_st
 clear hby8 hs8 hdead hlen V8 on8 HWH
 go_wp2_with fail
 refine wp_region_held_drew (S:=fun W'=>Below w8.heap.size w8 W') (by kernel_rfl) (drew_below w8) (fun hHeld=>?_)
 refine tk 0 47 ?_
 refine r1 1 (some 48) fun K hK=>?_
 go_simp
 refine (HSZ.out _ hHeld).mono ?_
 rintro e w9 ⟨rfl,hb9⟩
 refine hK.out _ _ (hHeld.trans (hb9.mono hHeld.size)) (fun hHeld=>?_)
 clear hK K
 try simp only [Act.put,List.setIfInBounds_toArray,List.set_cons_zero,List.set_cons_succ]
 refine tk 2 49 ?_
 refine tk 3 50 ?_
 refine tk 4 51 ?_
 refine tk 5 52 ?_
 refine tk 6 53 ?_
 refine tk 7 54 ?_
 refine tk 8 55 ?_
 refine tk 9 56 ?_
 refine tk 10 57 ?_
 refine tk 11 58 ?_
 refine tk 12 59 ?_
 refine tk 13 60 ?_
 refine tk 14 61 ?_
 refine tk 15 62 ?_
 refine tk 16 63 ?_
 refine tk 17 64 ?_
 refine r1 18 (some 65) fun K hK=>?_
 go_simp
 refine (Sh.sector_any _ 8 (by decide)).mono ?_
 rintro e w10 ⟨rfl,ho10,hb10⟩
 refine hK.out _ _ (hHeld.trans (hb10.mono hHeld.size)) (fun hHeld=>?_)
 clear hK K
 try simp only [Act.put,List.setIfInBounds_toArray,List.set_cons_zero,List.set_cons_succ]
 rw [HXE.out] at ho10
 have hb810:Below w8.heap.size w8 w10:=hHeld
 clear hHeld t1
 refine Sh.wpAnyH_mono (S':=fun W'=>Below w10.heap.size w10 W') (fun W' h=>hb810.trans (h.mono hb810.size)) _ _ _ _ ?_
 have hHeld:Below w10.heap.size w10 w10:=Below.refl _ _
 have t2:=fun W hb=>Sh.conv_own ho10 HS8.out W hb
 refine tk 19 66 ?_
 refine tk 20 67 ?_
 refine tk 21 68 ?_
 refine tk 22 69 ?_
 refine tk 23 70 ?_
 refine tk 24 71 ?_
 refine tk 25 72 ?_
 refine tk 26 73 ?_
 refine tk 27 74 ?_
 refine tk 28 75 ?_
 refine tk 29 76 ?_
 refine tk 30 77 ?_
 refine tk 31 78 ?_
 refine r1 32 (some 79) fun K hK=>?_
 go_simp
 refine (HST.out _ (hb810.trans (hHeld.mono hb810.size))).mono ?_
 rintro e w11 ⟨A11,c11,rfl,hb11⟩
 refine hK.out _ _ (hHeld.trans (hb11.mono hHeld.size)) (fun hHeld=>?_)
 clear hK K
 try simp only [Act.put,List.setIfInBounds_toArray,List.set_cons_zero,List.set_cons_succ]
 refine tk 33 80 ?_
 refine tk 34 81 ?_
 refine tk 35 82 ?_
 refine tk 36 83 ?_
 refine tk 37 0 ?_
 refine wpAnyH_done (by kernel_rfl) ?_ _
 have HE:=hid hHeld
 clear hHeld
 go_wp2
 go_ret
 exact ⟨rfl,HB8.out.trans ((hb810.trans (HE.out.mono hb810.size)).mono HB8.out.size)⟩
end Go.Proofs.YtgebkmpmnjhceaaGreatDoor.U
