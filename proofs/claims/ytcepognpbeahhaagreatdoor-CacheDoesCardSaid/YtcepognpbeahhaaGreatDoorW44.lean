/-
  What the statement's proof rests on, part 44.
  Conditions: each theorem's own.
-/
import Derived.Test.YtcepognpbeahhaaGreatDoorW43
import Derived.Deep.DeepCutAuto
import Derived.Deep.CutBlock
import Derived.Test.YtcepognpbeahhaaGreatDoorW40
import Derived.Test.YtcepognpbeahhaaGreatDoorWtk
open Go.Lib (hid)
namespace Go.Proofs.YtcepognpbeahhaaGreatDoor.Rc
open Go.ChangeShapes Go.WideShapes Go.ChangeAt Go.RowKit Go.Maps
open Go.Proofs.YtcepognpbeahhaaGreatDoor.Kc (En VolK CQ Got AllC GetR PutR FlushR finds dropE useE putE keysV risesE fFlush firstE)
section
variable {V:VolK} {cont:V.σ->Nat->Sh.Bs} {w:World} {c most k xr q:Nat}
set_option maxRecDepth 100000 in
set_option maxHeartbeats 8000000 in
theorem does10 {B:Nat} (hV:Vsure V cont) (hmost:most<=1024) (hB:B<4611686018427387903) (h:Alike2 V cont w c most xr (k+15) B [(q,Go.Proofs.YtcepognpbeahhaaGreatDoor.U.pairO c xr)]) (kd nm:Int) (xx:Nat) (hk:Go.Proofs.YtcepognpbeahhaaGreatDoor.Kc.I64 kd) (hn:Go.Proofs.YtcepognpbeahhaaGreatDoor.Kc.I64 nm) (hx:xx<256) :
  Calls Tryz.prog 12 #[.pointer (some ⟨q,0,none⟩),.agg #[.int .i64 kd,.int .i64 nm,.int .u8 (xx:Int)]] w fun r w'=>r=.returned (.bool true)/\Alike2 V cont w' c most xr k (B+1) [(q,Go.Proofs.YtcepognpbeahhaaGreatDoor.U.pairO c xr)]:=by
 obtain ⟨l,x,vs,ls,hv,h2,hA,hp⟩:=h
 have HTW:=hid (h2.add (o:=.cells #[.int .i64 kd,.int .i64 nm,.int .u8 (xx:Int)] 31 (0,0)) ((Below.refl _ w).alloc (Nat.le_refl _) (.cells #[.int .i64 kd,.int .i64 nm,.int .u8 (xx:Int)] 31)) (Nat.le_refl _) (heap_alloc_new w _))
 have HAG:=hid (And.intro hA hp)
 have bk:=cell_of_row _ _ 0 _ _ _ HTW.out.head
 simp only [List.getElem?_toArray,List.getElem?_cons_zero] at bk
 unfold Go.Proofs.YtcepognpbeahhaaGreatDoor.Kc.I64 at hk hn
 clear h2 hA hp
 go_enter Tryz.func12,Tryz.ntmps12
 go_upto_block 0 with fail
 generalize hW0:w.alloc (.cells #[.int .i64 kd,.int .i64 nm,.int .u8 (xx:Int)] 31)=W0 at *
 clear hW0
 generalize hB0:w.heap.size=B0 at *
 clear hB0
 go_cut [] (fun wx=>Hid (Alike2 V cont wx c most xr k (B+1) [(q,Go.Proofs.YtcepognpbeahhaaGreatDoor.U.pairO c xr)]))
 case first =>
  have HPC:Hid (∀W:World,Go.Proofs.YtcepognpbeahhaaGreatDoor.Kc.SQ [(B0,.cells #[.int .i64 kd,.int .i64 nm,.int .u8 (xx:Int)] 31 (0,0)),(q,Go.Proofs.YtcepognpbeahhaaGreatDoor.U.pairO c xr)] W->W.cell? ⟨q,0,none⟩=some (.pointer (some ⟨c,0,none⟩))/\W.cell? ⟨q,1,none⟩=some (.pointer (some ⟨xr,0,none⟩))):=hid fun W hW=>⟨cell_of_row _ _ 0 _ _ _ (hW _ ((List.mem_cons_of_mem _ (List.mem_cons_self ..)))),cell_of_row _ _ 1 _ _ _ (hW _ ((List.mem_cons_of_mem _ (List.mem_cons_self ..))))⟩
  have HBX:Hid (∀W:World,Go.Proofs.YtcepognpbeahhaaGreatDoor.Kc.SQ [(B0,.cells #[.int .i64 kd,.int .i64 nm,.int .u8 (xx:Int)] 31 (0,0)),(q,Go.Proofs.YtcepognpbeahhaaGreatDoor.U.pairO c xr)] W->W.cell? ⟨B0,0,none⟩=some (.int .i64 kd)/\W.cell? ⟨B0,1,none⟩=some (.int .i64 nm)/\W.cell? ⟨B0,2,none⟩=some (.int .u8 (xx:Int))):=hid fun W hW=>⟨cell_of_row _ _ 0 _ _ _ (hW _ ((List.mem_cons_self ..))),cell_of_row _ _ 1 _ _ _ (hW _ ((List.mem_cons_self ..))),cell_of_row _ _ 2 _ _ _ (hW _ ((List.mem_cons_self ..)))⟩
  have HT0:=hid (HTW.out.grown (show Below W0.heap.size W0 W0.drew from (Below.refl _ W0).drew))
  have HPB:Hid (∀e∈l,e.pins<4611686018427387904):=hid fun e he=>by have:=HAG.out.2 e he;omega
  have HRF:Hid ((risesE fFlush l).length<=12):=hid (rises_12 HTW.out.keys HTW.out.rf.lows)
  by_cases e1:kd=1
  ·subst e1
   have HGT:=hid (HT0.out.get (k:=k+13) nm)
   have HNL:Hid (∀z∈[(B0,.cells #[.int .i64 1,.int .i64 nm,.int .u8 (xx:Int)] 31 (0,0)),(q,Go.Proofs.YtcepognpbeahhaaGreatDoor.U.pairO c xr)],z.1<W0.heap.size):=hid fun z hz=>lt_of_block (HTW.out.of hz)
   go_wp2_with fail
   refine wp_region_held_drew (S:=Go.Proofs.YtcepognpbeahhaaGreatDoor.Kc.SQ [(B0,.cells #[.int .i64 1,.int .i64 nm,.int .u8 (xx:Int)] 31 (0,0)),(q,Go.Proofs.YtcepognpbeahhaaGreatDoor.U.pairO c xr)]) (by kernel_rfl) HT0.out.sq (fun hHeld=>?_)
   refine tk 0 18 ?_
   refine tk 1 19 ?_
   refine tk 2 20 ?_
   refine wpAnyH_take (i:=3) (oi:=⟨some 21,_,_,_,_,_⟩) (v:=?_) rfl (by kernel_rfl) (by kernel_rfl) (by kernel_rfl) (fun _ _ _ h=>h) (Or.inl ⟨by rfl,?_⟩) (by assumption) ?_
   rotate_left
   ·(intro w hSw;obtain ⟨c90,c91⟩:=HPC.out w hSw;obtain ⟨b90,b91,b92⟩:=HBX.out w hSw;clear hSw;(try dsimp only at hSw);go_simp;first | done | with_reducible rfl)
   try simp only [Act.put,List.setIfInBounds_toArray,List.set_cons_zero,List.set_cons_succ]
   refine tk 4 22 ?_
   refine wpAnyH_take (i:=5) (oi:=⟨some 23,_,_,_,_,_⟩) (v:=?_) rfl (by kernel_rfl) (by kernel_rfl) (by kernel_rfl) (fun _ _ _ h=>h) (Or.inl ⟨by rfl,?_⟩) (by assumption) ?_
   rotate_left
   ·(intro w hSw;obtain ⟨c90,c91⟩:=HPC.out w hSw;obtain ⟨b90,b91,b92⟩:=HBX.out w hSw;clear hSw;(try dsimp only at hSw);go_simp;first | done | with_reducible rfl)
   try simp only [Act.put,List.setIfInBounds_toArray,List.set_cons_zero,List.set_cons_succ]
   refine r1 6 (some 24) fun K hK=>?_
   go_simp
   refine (HGT.out).mono ?_
   rintro e w1 ⟨y,A1,len1,cap1,X1,l1,x1,rfl,hget,h1,hgot⟩
   refine hK.out _ _ h1.sq (fun hHeld=>?_)
   clear hK K
   try simp only [Act.put,List.setIfInBounds_toArray,List.set_cons_zero,List.set_cons_succ]
   have HPN:=hid (get_pins HAG.out.1 hV hget HAG.out.2)
   have HGE:=hid hget
   have HGO:=hid hgot
   have HT1:=hid (h1.grown (show Below w1.heap.size w1 w1.drew from (Below.refl _ w1).drew))
   clear hget h1 hgot HGT
   refine tk 7 17 ?_
   refine tk 8 25 ?_
   refine tk 9 26 ?_
   refine tk 10 5 ?_
   refine tk 11 6 ?_
   refine wpAnyH_done (by kernel_rfl) ?_ _
   clear hHeld
   have hgo:=HGO.out
   rcases hgo with hgo | hgo
   ·obtain ⟨rfl,rfl,ad,o1,rfl,hby,hsec,h1b⟩:=hgo
    have HT1b:=hid (h1b.grown (show Below w1.heap.size w1 w1.drew from (Below.refl _ w1).drew))
    have hlow:W0.drew.heap.size<=ad.block:=(hby.2 ad rfl).1
    have HNE:Hid (∀z∈[(B0,.cells #[.int .i64 1,.int .i64 nm,.int .u8 (xx:Int)] 31 (0,0)),(q,Go.Proofs.YtcepognpbeahhaaGreatDoor.U.pairO c xr)],z.1≠ad.block):=hid fun z hz=>by have:=HNL.out z hz;have:W0.drew.heap.size=W0.heap.size:=rfl;omega
    generalize hs1:Sh.strL X1=s1
    have HS1:=hid hs1
    have HBY:=hid (And.intro hby h1b.head)
    have HRF2:=hid (get_ref HAG.out.1 hV hmost HGE.out HT1b.out)
    rw [HS1.out] at HRF2
    clear hs1 hby hsec h1b hlow
    have HPC2:Hid (∀W:World,Go.Proofs.YtcepognpbeahhaaGreatDoor.Kc.SQ [(ad.block,o1),(B0,.cells #[.int .i64 1,.int .i64 nm,.int .u8 (xx:Int)] 31 (0,0)),(q,Go.Proofs.YtcepognpbeahhaaGreatDoor.U.pairO c xr)] W->W.cell? ⟨q,0,none⟩=some (.pointer (some ⟨c,0,none⟩))/\W.cell? ⟨q,1,none⟩=some (.pointer (some ⟨xr,0,none⟩))):=hid fun W hW=>⟨cell_of_row _ _ 0 _ _ _ (hW _ ((List.mem_cons_of_mem _ (List.mem_cons_of_mem _ (List.mem_cons_self ..))))),cell_of_row _ _ 1 _ _ _ (hW _ ((List.mem_cons_of_mem _ (List.mem_cons_of_mem _ (List.mem_cons_self ..)))))⟩
    have HBX2:Hid (∀W:World,Go.Proofs.YtcepognpbeahhaaGreatDoor.Kc.SQ [(ad.block,o1),(B0,.cells #[.int .i64 1,.int .i64 nm,.int .u8 (xx:Int)] 31 (0,0)),(q,Go.Proofs.YtcepognpbeahhaaGreatDoor.U.pairO c xr)] W->W.cell? ⟨B0,0,none⟩=some (.int .i64 1)/\W.cell? ⟨B0,1,none⟩=some (.int .i64 nm)/\W.cell? ⟨B0,2,none⟩=some (.int .u8 (xx:Int))):=hid fun W hW=>⟨cell_of_row _ _ 0 _ _ _ (hW _ ((List.mem_cons_of_mem _ (List.mem_cons_self ..)))),cell_of_row _ _ 1 _ _ _ (hW _ ((List.mem_cons_of_mem _ (List.mem_cons_self ..)))),cell_of_row _ _ 2 _ _ _ (hW _ ((List.mem_cons_of_mem _ (List.mem_cons_self ..))))⟩
    clear HPC HBX HT1
    go_wp2_with fail
    refine wp_region_held_drew (S:=Go.Proofs.YtcepognpbeahhaaGreatDoor.Kc.SQ [(ad.block,o1),(B0,.cells #[.int .i64 1,.int .i64 nm,.int .u8 (xx:Int)] 31 (0,0)),(q,Go.Proofs.YtcepognpbeahhaaGreatDoor.U.pairO c xr)]) (by kernel_rfl) HT1b.out.sq (fun hHeld=>?_)
    refine tk 0 28 ?_
    refine tk 1 29 ?_
    refine tk 2 30 ?_
    refine wpAnyH_take (i:=3) (oi:=⟨some 31,_,_,_,_,_⟩) (v:=?_) rfl (by kernel_rfl) (by kernel_rfl) (by kernel_rfl) (fun _ _ _ h=>h) (Or.inl ⟨by rfl,?_⟩) (by assumption) ?_
    rotate_left
    ·(intro w hSw;obtain ⟨c90,c91⟩:=HPC2.out w hSw;obtain ⟨b90,b91,b92⟩:=HBX2.out w hSw;clear hSw;(try dsimp only at hSw);go_simp;first | done | with_reducible rfl)
    try simp only [Act.put,List.setIfInBounds_toArray,List.set_cons_zero,List.set_cons_succ]
    refine tk 4 32 ?_
    refine wpAnyH_take (i:=5) (oi:=⟨some 33,_,_,_,_,_⟩) (v:=?_) rfl (by kernel_rfl) (by kernel_rfl) (by kernel_rfl) (fun _ _ _ h=>h) (Or.inl ⟨by rfl,?_⟩) (by assumption) ?_
    rotate_left
    ·(intro w hSw;obtain ⟨c90,c91⟩:=HPC2.out w hSw;obtain ⟨b90,b91,b92⟩:=HBX2.out w hSw;clear hSw;(try dsimp only at hSw);go_simp;first | done | with_reducible rfl)
    try simp only [Act.put,List.setIfInBounds_toArray,List.set_cons_zero,List.set_cons_succ]
    refine r1 6 (some 34) fun K hK=>?_
    go_simp
    refine (HRF2.out).mono ?_
    rintro e w2 ⟨hv2,ls2,rfl,h2,hA2⟩
    refine hK.out _ _ h2.sq (fun hHeld=>?_)
    clear hK K
    try simp only [Act.put,List.setIfInBounds_toArray,List.set_cons_zero,List.set_cons_succ]
    have HT2:=hid (And.intro h2 hA2)
    clear h2 hA2 HRF2
    refine tk 7 27 ?_
    refine tk 8 35 ?_
    refine tk 9 36 ?_
    refine tk 10 7 ?_
    refine tk 11 8 ?_
    refine wpAnyH_done (by kernel_rfl) ?_ _
    clear hHeld
    have c9:=Go.Proofs.YtcepognpbeahhaaGreatDoor.Kc.got_conv HBY.out.1 rfl HBY.out.2 w2 HT2.out.1.head cap1 s1 HS1.out
    have HBA:=hid (ByA.of (w':=w2) HBY.out.1 (HT2.out.1.head.trans HBY.out.2.symm))
    have HPN2:Hid (∀e∈l1,e.pins<=B+1):=hid fun e he=>Nat.le_succ_of_le (HPN.out e he)
    have HIN:Hid (∃o,Two V w2 c most l1 x1 (k+13) xr vs ls2 hv2 l1 [(ad.block,o),(B0,.cells #[.int .i64 1,.int .i64 nm,.int .u8 (xx:Int)] 31 (0,0)),(q,Go.Proofs.YtcepognpbeahhaaGreatDoor.U.pairO c xr)]/\ByA w2 ad):=hid ⟨o1,HT2.out.1,HBA.out⟩
    have HAG2:=hid HT2.out.2
    clear HPC2 HBX2 HT1b HGE HGO HBA HT2 HAG HTW HT0 HPN HNL HBY HS1 HPB HRF
    go_wp2_with fail
    go_loopw [9] (fun i wr=>∃j:Nat,j<=128/\i=.int .i64 j/\Hid (∃o,Two V wr c most l1 x1 (k+13) xr vs ls2 hv2 l1 [(ad.block,o),(B0,.cells #[.int .i64 1,.int .i64 nm,.int .u8 (xx:Int)] 31 (0,0)),(q,Go.Proofs.YtcepognpbeahhaaGreatDoor.U.pairO c xr)]/\ByA wr ad)) (fun i _=>128-(intOf i).toNat)
    case atStart=>exact ⟨0,Nat.zero_le _,rfl,HIN⟩
    case round =>
     clear HIN c9
     obtain ⟨j,hj,rfl,hrel⟩:=hrel
     by_cases hlt:j<128
     ·obtain ⟨o,h5,h6⟩:=hrel.out
      obtain ⟨z,x0,f0⟩:=h6 j hlt
      obtain ⟨z1,_,he⟩:=bump8 z
      have HN:=hid (And.intro (h5.bump HNE.out (ad.add j) (Sh.block_of_add ad j) (.int .u8 (z1:Int))) (h6.poke hlt z1))
      have HN2:Hid (∃o,Two V (wr.setCell (ad.add j) (.int .u8 (z1:Int))) c most l1 x1 (k+13) xr vs ls2 hv2 l1 [(ad.block,o),(B0,.cells #[.int .i64 1,.int .i64 nm,.int .u8 (xx:Int)] 31 (0,0)),(q,Go.Proofs.YtcepognpbeahhaaGreatDoor.U.pairO c xr)]/\ByA (wr.setCell (ad.add j) (.int .u8 (z1:Int))) ad):=hid (by obtain ⟨o2,h7⟩:=HN.out.1;exact ⟨o2,h7,HN.out.2⟩)
      clear hrel h5 h6 HN
      go_wp2
      go_roundw
      case rel=>exact ⟨j+1,by omega,by go_num,HN2⟩
      case measure=>simp [intOf];omega
     ·obtain rfl:j=128:=by omega
      obtain ⟨o,h5,h6⟩:=hrel.out
      have HR:Hid (Alike2 V cont _ c most xr k (B+1) [(q,Go.Proofs.YtcepognpbeahhaaGreatDoor.U.pairO c xr)]):=hid ⟨l1,x1,vs,ls2,hv2,h5.tail.tail.less (by omega),HAG2.out,HPN2.out⟩
      clear hrel h5 h6 HPN2 HAG2 HNE
      go_wp2_with fail
      go_meet
      exact HR.out
   ·obtain ⟨hy,rfl,rfl,rfl⟩:=hgo
    have hX:=get_err HGE.out hy
    subst hX
    have hyy:(y != y)=false:=by simp
    have HRF2:=hid (get_ref HAG.out.1 hV hmost HGE.out HT1.out)
    rw [strL_none] at HRF2
    clear hy
    go_wp2_with fail
    refine wp_region_held_drew (S:=Go.Proofs.YtcepognpbeahhaaGreatDoor.Kc.SQ [(B0,.cells #[.int .i64 1,.int .i64 nm,.int .u8 (xx:Int)] 31 (0,0)),(q,Go.Proofs.YtcepognpbeahhaaGreatDoor.U.pairO c xr)]) (by kernel_rfl) HT1.out.sq (fun hHeld=>?_)
    refine tk 0 28 ?_
    refine tk 1 29 ?_
    refine tk 2 30 ?_
    refine wpAnyH_take (i:=3) (oi:=⟨some 31,_,_,_,_,_⟩) (v:=?_) rfl (by kernel_rfl) (by kernel_rfl) (by kernel_rfl) (fun _ _ _ h=>h) (Or.inl ⟨by rfl,?_⟩) (by assumption) ?_
    rotate_left
    ·(intro w hSw;obtain ⟨c90,c91⟩:=HPC.out w hSw;obtain ⟨b90,b91,b92⟩:=HBX.out w hSw;clear hSw;(try dsimp only at hSw);go_simp;first | done | with_reducible rfl)
    try simp only [Act.put,List.setIfInBounds_toArray,List.set_cons_zero,List.set_cons_succ]
    refine tk 4 32 ?_
    refine wpAnyH_take (i:=5) (oi:=⟨some 33,_,_,_,_,_⟩) (v:=?_) rfl (by kernel_rfl) (by kernel_rfl) (by kernel_rfl) (fun _ _ _ h=>h) (Or.inl ⟨by rfl,?_⟩) (by assumption) ?_
    rotate_left
    ·(intro w hSw;obtain ⟨c90,c91⟩:=HPC.out w hSw;obtain ⟨b90,b91,b92⟩:=HBX.out w hSw;clear hSw;(try dsimp only at hSw);go_simp;first | done | with_reducible rfl)
    try simp only [Act.put,List.setIfInBounds_toArray,List.set_cons_zero,List.set_cons_succ]
    refine r1 6 (some 34) fun K hK=>?_
    go_simp
    refine (HRF2.out).mono ?_
    rintro e w2 ⟨hv2,ls2,rfl,h2,hA2⟩
    refine hK.out _ _ h2.sq (fun hHeld=>?_)
    clear hK K
    try simp only [Act.put,List.setIfInBounds_toArray,List.set_cons_zero,List.set_cons_succ]
    have HT2:=hid (And.intro h2 hA2)
    clear h2 hA2 HRF2
    refine tk 7 27 ?_
    refine tk 8 35 ?_
    refine tk 9 36 ?_
    refine tk 10 7 ?_
    refine tk 11 8 ?_
    refine wpAnyH_done (by kernel_rfl) ?_ _
    clear hHeld
    have HR:Hid (Alike2 V cont _ c most xr k (B+1) [(q,Go.Proofs.YtcepognpbeahhaaGreatDoor.U.pairO c xr)]):=hid ⟨l1,x1,vs,ls2,hv2,HT2.out.1.tail.less (by omega),HT2.out.2,fun e he=>Nat.le_succ_of_le (HPN.out e he)⟩
    clear HPC HBX HGE HGO HT1 HT2 HAG HTW HT0 HPN HNL HPB HRF
    have c9:(convert 40 9 (.slice none 0 0)).run Tryz.prog w2=.ok (.string ⟨#[]⟩) w2:=by rw [<- strL_none];exact Sh.run_str (B:=0) 0 Sh.Reads.none_
    go_wp2_with fail
    go_loopw [9] (fun i wr=>i=.int .i64 0/\Hid (Go.Proofs.YtcepognpbeahhaaGreatDoor.Kc.SameW w2 wr)) (fun _ _=>0)
    case atStart=>exact ⟨rfl,hid rfl⟩
    case round =>
     obtain ⟨rfl,hrel⟩:=hrel
     have hwr:w2=wr:=hrel.out
     subst hwr
     clear hrel
     go_wp2_with fail
     go_meet
     exact HR.out
  by_cases e2:kd=2
  ·subst e2
   have HNE:Hid (∀z∈[(B0,.cells #[.int .i64 2,.int .i64 nm,.int .u8 (xx:Int)] 31 (0,0)),(q,Go.Proofs.YtcepognpbeahhaaGreatDoor.U.pairO c xr)],z.1≠W0.heap.size):=hid fun z hz=>by have:=lt_of_block (HTW.out.of hz);omega
   obtain ⟨b90,b91,b92⟩:=HBX.out W0 HTW.out.sq
   go_wp2_with fail
   refine (Sh.sector_any _ xx hx).mono ?_
   rintro e w5 ⟨rfl,ho5,hb5⟩
   obtain ⟨o5,hblk5,hcv5⟩:=Go.Proofs.YtcepognpbeahhaaGreatDoor.Kc.own_conv ho5
   have HT5:=hid ((HTW.out.add hb5 (Nat.le_refl _) hblk5).grown (show Below w5.heap.size w5 w5.drew from (Below.refl _ w5).drew))
   have HO5:=hid (And.intro ho5 hblk5)
   have HPC2:Hid (∀W:World,Go.Proofs.YtcepognpbeahhaaGreatDoor.Kc.SQ [(W0.heap.size,o5),(B0,.cells #[.int .i64 2,.int .i64 nm,.int .u8 (xx:Int)] 31 (0,0)),(q,Go.Proofs.YtcepognpbeahhaaGreatDoor.U.pairO c xr)] W->W.cell? ⟨q,0,none⟩=some (.pointer (some ⟨c,0,none⟩))/\W.cell? ⟨q,1,none⟩=some (.pointer (some ⟨xr,0,none⟩))):=hid fun W hW=>⟨cell_of_row _ _ 0 _ _ _ (hW _ ((List.mem_cons_of_mem _ (List.mem_cons_of_mem _ (List.mem_cons_self ..))))),cell_of_row _ _ 1 _ _ _ (hW _ ((List.mem_cons_of_mem _ (List.mem_cons_of_mem _ (List.mem_cons_self ..)))))⟩
   have HBX2:Hid (∀W:World,Go.Proofs.YtcepognpbeahhaaGreatDoor.Kc.SQ [(W0.heap.size,o5),(B0,.cells #[.int .i64 2,.int .i64 nm,.int .u8 (xx:Int)] 31 (0,0)),(q,Go.Proofs.YtcepognpbeahhaaGreatDoor.U.pairO c xr)] W->W.cell? ⟨B0,0,none⟩=some (.int .i64 2)/\W.cell? ⟨B0,1,none⟩=some (.int .i64 nm)/\W.cell? ⟨B0,2,none⟩=some (.int .u8 (xx:Int))):=hid fun W hW=>⟨cell_of_row _ _ 0 _ _ _ (hW _ ((List.mem_cons_of_mem _ (List.mem_cons_self ..)))),cell_of_row _ _ 1 _ _ _ (hW _ ((List.mem_cons_of_mem _ (List.mem_cons_self ..)))),cell_of_row _ _ 2 _ _ _ (hW _ ((List.mem_cons_of_mem _ (List.mem_cons_self ..))))⟩
   generalize hs0:Sh.strL (Sh.secOf xx)=s0
   have HS0:=hid hs0
   have HBY:Hid (∀W:World,Go.Proofs.YtcepognpbeahhaaGreatDoor.Kc.SQ [(W0.heap.size,o5),(B0,.cells #[.int .i64 2,.int .i64 nm,.int .u8 (xx:Int)] 31 (0,0)),(q,Go.Proofs.YtcepognpbeahhaaGreatDoor.U.pairO c xr)] W->(convert 40 9 (.slice (some ⟨W0.heap.size,0,none⟩) 128 128)).run Tryz.prog W=.ok (.string s0) W):=hid fun W hW=>hcv5 W hW.head _ HS0.out
   have HPT:=hid (HT5.out.put2 (cp:=128) nm (Sh.secOf_sec hx) (Sh.Reads.of_own (show w5.drew.ownsRow _ _ _ _ _ _ from ho5)))
   clear b90 b91 b92 hs0 hcv5 hblk5 ho5 hb5 HPC HBX HT0
   go_wp2_with fail
   refine wp_region_held_drew (S:=Go.Proofs.YtcepognpbeahhaaGreatDoor.Kc.SQ [(W0.heap.size,o5),(B0,.cells #[.int .i64 2,.int .i64 nm,.int .u8 (xx:Int)] 31 (0,0)),(q,Go.Proofs.YtcepognpbeahhaaGreatDoor.U.pairO c xr)]) (by kernel_rfl) HT5.out.sq (fun hHeld=>?_)
   refine tk 0 63 ?_
   refine tk 1 64 ?_
   refine tk 2 65 ?_
   refine wpAnyH_take (i:=3) (oi:=⟨some 66,_,_,_,_,_⟩) (v:=?_) rfl (by kernel_rfl) (by kernel_rfl) (by kernel_rfl) (fun _ _ _ h=>h) (Or.inl ⟨by rfl,?_⟩) (by assumption) ?_
   rotate_left
   ·(intro w hSw;obtain ⟨c90,c91⟩:=HPC2.out w hSw;obtain ⟨b90,b91,b92⟩:=HBX2.out w hSw;clear hSw;(try dsimp only at hSw);go_simp;first | done | with_reducible rfl)
   try simp only [Act.put,List.setIfInBounds_toArray,List.set_cons_zero,List.set_cons_succ]
   refine tk 4 67 ?_
   refine wpAnyH_take (i:=5) (oi:=⟨some 68,_,_,_,_,_⟩) (v:=?_) rfl (by kernel_rfl) (by kernel_rfl) (by kernel_rfl) (fun _ _ _ h=>h) (Or.inl ⟨by rfl,?_⟩) (by assumption) ?_
   rotate_left
   ·(intro w hSw;obtain ⟨c90,c91⟩:=HPC2.out w hSw;obtain ⟨b90,b91,b92⟩:=HBX2.out w hSw;clear hSw;(try dsimp only at hSw);go_simp;first | done | with_reducible rfl)
   try simp only [Act.put,List.setIfInBounds_toArray,List.set_cons_zero,List.set_cons_succ]
   refine tk 6 69 ?_
   refine r1 7 (some 70) fun K hK=>?_
   go_simp
   refine ((HPT.out)).mono ?_
   rintro e w6 ⟨y,l6,x6,rfl,hput,h6⟩
   refine hK.out _ _ h6.sq (fun hHeld=>?_)
   clear hK K
   try simp only [Act.put,List.setIfInBounds_toArray,List.set_cons_zero,List.set_cons_succ]
   have HPN:=hid (put_pins HAG.out.1 hV hput HAG.out.2)
   have HRF2:=hid (put_ref HAG.out.1 hV hmost hput (h6.grown (show Below w6.heap.size w6 w6.drew from (Below.refl _ w6).drew)))
   rw [HS0.out] at HRF2
   have HT6:=hid (h6.grown (show Below w6.heap.size w6 w6.drew from (Below.refl _ w6).drew))
   clear hput h6 HPT
   refine tk 8 11 ?_
   refine wpAnyH_done (by kernel_rfl) ?_ _
   clear hHeld
   go_wp2_with fail
   refine wp_region_held_drew (S:=Go.Proofs.YtcepognpbeahhaaGreatDoor.Kc.SQ [(W0.heap.size,o5),(B0,.cells #[.int .i64 2,.int .i64 nm,.int .u8 (xx:Int)] 31 (0,0)),(q,Go.Proofs.YtcepognpbeahhaaGreatDoor.U.pairO c xr)]) (by kernel_rfl) HT6.out.sq (fun hHeld=>?_)
   refine tk 0 71 ?_
   refine tk 1 72 ?_
   refine tk 2 73 ?_
   refine wpAnyH_take (i:=3) (oi:=⟨some 74,_,_,_,_,_⟩) (v:=?_) rfl (by kernel_rfl) (by kernel_rfl) (by kernel_rfl) (fun _ _ _ h=>h) (Or.inl ⟨by rfl,?_⟩) (by assumption) ?_
   rotate_left
   ·(intro w hSw;obtain ⟨c90,c91⟩:=HPC2.out w hSw;obtain ⟨b90,b91,b92⟩:=HBX2.out w hSw;clear hSw;(try dsimp only at hSw);go_simp;first | done | with_reducible rfl)
   try simp only [Act.put,List.setIfInBounds_toArray,List.set_cons_zero,List.set_cons_succ]
   refine tk 4 75 ?_
   refine wpAnyH_take (i:=5) (oi:=⟨some 76,_,_,_,_,_⟩) (v:=?_) rfl (by kernel_rfl) (by kernel_rfl) (by kernel_rfl) (fun _ _ _ h=>h) (Or.inl ⟨by rfl,?_⟩) (by assumption) ?_
   rotate_left
   ·(intro w hSw;obtain ⟨c90,c91⟩:=HPC2.out w hSw;obtain ⟨b90,b91,b92⟩:=HBX2.out w hSw;clear hSw;(try dsimp only at hSw);go_simp;first | done | with_reducible rfl)
   try simp only [Act.put,List.setIfInBounds_toArray,List.set_cons_zero,List.set_cons_succ]
   refine tk 6 77 ?_
   refine wpAnyH_take (i:=7) (oi:=⟨some 78,_,_,_,_,_⟩) (v:=?_) rfl (by kernel_rfl) (by kernel_rfl) (by kernel_rfl) (fun _ _ _ h=>h) (Or.inl ⟨by rfl,?_⟩) (by assumption) ?_
   rotate_left
   ·(intro w hSw;have c9:=HBY.out w hSw;clear hSw;(try dsimp only at hSw);go_simp;first | done | with_reducible rfl)
   try simp only [Act.put,List.setIfInBounds_toArray,List.set_cons_zero,List.set_cons_succ]
   refine r1 8 (some 79) fun K hK=>?_
   go_simp
   refine (HRF2.out).mono ?_
   rintro e w7 ⟨hv7,ls7,rfl,h7,hA7⟩
   refine hK.out _ _ h7.sq (fun hHeld=>?_)
   clear hK K
   try simp only [Act.put,List.setIfInBounds_toArray,List.set_cons_zero,List.set_cons_succ]
   have HT7:=hid (And.intro h7 hA7)
   clear h7 hA7 HRF2 HT6
   refine tk 9 12 ?_
   refine wpAnyH_done (by kernel_rfl) ?_ _
   clear hHeld HBY
   have hr7:w7.ownsRow W0.heap.size 5 1 (.slice (some ⟨W0.heap.size,0,none⟩) 128 128) 128 (Sh.bts (Sh.secOf xx)):=Sh.same_row HO5.out.1 fun b hb=>by injection hb with hb;rw [<- hb];exact HT7.out.1.head.trans HO5.out.2.symm
   obtain ⟨z,k1,k2⟩:=row_bump hr7 (j:=1) (by decide)
   obtain ⟨z1,hz1,hw1⟩:=bump8 z
   obtain ⟨o8,h8⟩:=HT7.out.1.bump HNE.out ⟨W0.heap.size,1,none⟩ rfl (.int .u8 (z1:Int))
   clear hr7 HO5 HS0
   have HR:Hid (Alike2 V cont _ c most xr k (B+1) [(q,Go.Proofs.YtcepognpbeahhaaGreatDoor.U.pairO c xr)]):=hid ⟨l6,x6,vs,ls7,hv7,h8.tail.tail.less (by omega),HT7.out.2,fun e he=>Nat.le_succ_of_le (HPN.out e he)⟩
   clear h8 HPN HT7 HPC2 HBX2 HAG HTW HT5 HNE
   go_wp2_with fail
   go_meet
   exact HR.out
  by_cases e3:kd=3
  ·subst e3
   have HRL:=hid (pin_real HT0.out nm hn HPB.out)
   go_wp2_with fail
   refine wp_region_held_drew (S:=Go.Proofs.YtcepognpbeahhaaGreatDoor.Kc.SQ [(B0,.cells #[.int .i64 3,.int .i64 nm,.int .u8 (xx:Int)] 31 (0,0)),(q,Go.Proofs.YtcepognpbeahhaaGreatDoor.U.pairO c xr)]) (by kernel_rfl) HT0.out.sq (fun hHeld=>?_)
   refine tk 0 90 ?_
   refine tk 1 91 ?_
   refine tk 2 92 ?_
   refine wpAnyH_take (i:=3) (oi:=⟨some 93,_,_,_,_,_⟩) (v:=?_) rfl (by kernel_rfl) (by kernel_rfl) (by kernel_rfl) (fun _ _ _ h=>h) (Or.inl ⟨by rfl,?_⟩) (by assumption) ?_
   rotate_left
   ·(intro w hSw;obtain ⟨c90,c91⟩:=HPC.out w hSw;obtain ⟨b90,b91,b92⟩:=HBX.out w hSw;clear hSw;(try dsimp only at hSw);go_simp;first | done | with_reducible rfl)
   try simp only [Act.put,List.setIfInBounds_toArray,List.set_cons_zero,List.set_cons_succ]
   refine tk 4 94 ?_
   refine wpAnyH_take (i:=5) (oi:=⟨some 95,_,_,_,_,_⟩) (v:=?_) rfl (by kernel_rfl) (by kernel_rfl) (by kernel_rfl) (fun _ _ _ h=>h) (Or.inl ⟨by rfl,?_⟩) (by assumption) ?_
   rotate_left
   ·(intro w hSw;obtain ⟨c90,c91⟩:=HPC.out w hSw;obtain ⟨b90,b91,b92⟩:=HBX.out w hSw;clear hSw;(try dsimp only at hSw);go_simp;first | done | with_reducible rfl)
   try simp only [Act.put,List.setIfInBounds_toArray,List.set_cons_zero,List.set_cons_succ]
   refine tk 7 97 ?_
   refine tk 8 98 ?_
   refine tk 9 99 ?_
   refine wpAnyH_take (i:=10) (oi:=⟨some 100,_,_,_,_,_⟩) (v:=?_) rfl (by kernel_rfl) (by kernel_rfl) (by kernel_rfl) (fun _ _ _ h=>h) (Or.inl ⟨by rfl,?_⟩) (by assumption) ?_
   rotate_left
   ·(intro w hSw;obtain ⟨c90,c91⟩:=HPC.out w hSw;obtain ⟨b90,b91,b92⟩:=HBX.out w hSw;clear hSw;(try dsimp only at hSw);go_simp;first | done | with_reducible rfl)
   try simp only [Act.put,List.setIfInBounds_toArray,List.set_cons_zero,List.set_cons_succ]
   refine tk 11 101 ?_
   refine wpAnyH_take (i:=12) (oi:=⟨some 102,_,_,_,_,_⟩) (v:=?_) rfl (by kernel_rfl) (by kernel_rfl) (by kernel_rfl) (fun _ _ _ h=>h) (Or.inl ⟨by rfl,?_⟩) (by assumption) ?_
   rotate_left
   ·(intro w hSw;obtain ⟨c90,c91⟩:=HPC.out w hSw;obtain ⟨b90,b91,b92⟩:=HBX.out w hSw;clear hSw;(try dsimp only at hSw);go_simp;first | done | with_reducible rfl)
   try simp only [Act.put,List.setIfInBounds_toArray,List.set_cons_zero,List.set_cons_succ]
   refine r1 6 (some 96) fun K hK=>?_
   go_simp
   refine (HRL.out).mono ?_
   rintro e w1 ⟨y,l1,rfl,hpr,h1⟩
   refine hK.out _ _ h1.sq (fun hHeld=>?_)
   clear hK K
   try simp only [Act.put,List.setIfInBounds_toArray,List.set_cons_zero,List.set_cons_succ]
   have HR2:=hid (pin_ref h1 hpr HPB.out)
   have HPN:=hid (pin_pins hpr HAG.out.2)
   clear hpr h1
   refine r1 13 (some 103) fun K hK=>?_
   go_simp
   refine (HR2.out).mono ?_
   rintro e w2 ⟨rfl,ls2,h2⟩
   refine hK.out _ _ h2.sq (fun hHeld=>?_)
   clear hK K
   try simp only [Act.put,List.setIfInBounds_toArray,List.set_cons_zero,List.set_cons_succ]
   have HR:Hid (Alike2 V cont _ c most xr k (B+1) [(q,Go.Proofs.YtcepognpbeahhaaGreatDoor.U.pairO c xr)]):=hid ⟨l1,x,vs,ls2,hv,h2.tail.less (by omega),HAG.out.1,HPN.out⟩
   clear h2 HPN HR2 HRL
   refine tk 14 104 ?_
   refine wpAnyH_done (by kernel_rfl) ?_ _
   clear hHeld HPC HBX HT0 HAG
   go_wp2_with fail
   go_meet
   exact HR.out
  by_cases e4:kd=4
  ·subst e4
   have HRL:=hid (unpin_real HT0.out nm hn)
   go_wp2_with fail
   refine wp_region_held_drew (S:=Go.Proofs.YtcepognpbeahhaaGreatDoor.Kc.SQ [(B0,.cells #[.int .i64 4,.int .i64 nm,.int .u8 (xx:Int)] 31 (0,0)),(q,Go.Proofs.YtcepognpbeahhaaGreatDoor.U.pairO c xr)]) (by kernel_rfl) HT0.out.sq (fun hHeld=>?_)
   refine tk 0 107 ?_
   refine tk 1 108 ?_
   refine tk 2 109 ?_
   refine wpAnyH_take (i:=3) (oi:=⟨some 110,_,_,_,_,_⟩) (v:=?_) rfl (by kernel_rfl) (by kernel_rfl) (by kernel_rfl) (fun _ _ _ h=>h) (Or.inl ⟨by rfl,?_⟩) (by assumption) ?_
   rotate_left
   ·(intro w hSw;obtain ⟨c90,c91⟩:=HPC.out w hSw;obtain ⟨b90,b91,b92⟩:=HBX.out w hSw;clear hSw;(try dsimp only at hSw);go_simp;first | done | with_reducible rfl)
   try simp only [Act.put,List.setIfInBounds_toArray,List.set_cons_zero,List.set_cons_succ]
   refine tk 4 111 ?_
   refine wpAnyH_take (i:=5) (oi:=⟨some 112,_,_,_,_,_⟩) (v:=?_) rfl (by kernel_rfl) (by kernel_rfl) (by kernel_rfl) (fun _ _ _ h=>h) (Or.inl ⟨by rfl,?_⟩) (by assumption) ?_
   rotate_left
   ·(intro w hSw;obtain ⟨c90,c91⟩:=HPC.out w hSw;obtain ⟨b90,b91,b92⟩:=HBX.out w hSw;clear hSw;(try dsimp only at hSw);go_simp;first | done | with_reducible rfl)
   try simp only [Act.put,List.setIfInBounds_toArray,List.set_cons_zero,List.set_cons_succ]
   refine tk 7 114 ?_
   refine tk 8 115 ?_
   refine tk 9 116 ?_
   refine wpAnyH_take (i:=10) (oi:=⟨some 117,_,_,_,_,_⟩) (v:=?_) rfl (by kernel_rfl) (by kernel_rfl) (by kernel_rfl) (fun _ _ _ h=>h) (Or.inl ⟨by rfl,?_⟩) (by assumption) ?_
   rotate_left
   ·(intro w hSw;obtain ⟨c90,c91⟩:=HPC.out w hSw;obtain ⟨b90,b91,b92⟩:=HBX.out w hSw;clear hSw;(try dsimp only at hSw);go_simp;first | done | with_reducible rfl)
   try simp only [Act.put,List.setIfInBounds_toArray,List.set_cons_zero,List.set_cons_succ]
   refine tk 11 118 ?_
   refine wpAnyH_take (i:=12) (oi:=⟨some 119,_,_,_,_,_⟩) (v:=?_) rfl (by kernel_rfl) (by kernel_rfl) (by kernel_rfl) (fun _ _ _ h=>h) (Or.inl ⟨by rfl,?_⟩) (by assumption) ?_
   rotate_left
   ·(intro w hSw;obtain ⟨c90,c91⟩:=HPC.out w hSw;obtain ⟨b90,b91,b92⟩:=HBX.out w hSw;clear hSw;(try dsimp only at hSw);go_simp;first | done | with_reducible rfl)
   try simp only [Act.put,List.setIfInBounds_toArray,List.set_cons_zero,List.set_cons_succ]
   refine r1 6 (some 113) fun K hK=>?_
   go_simp
   refine (HRL.out).mono ?_
   rintro e w1 ⟨y,l1,rfl,hpr,h1⟩
   refine hK.out _ _ h1.sq (fun hHeld=>?_)
   clear hK K
   try simp only [Act.put,List.setIfInBounds_toArray,List.set_cons_zero,List.set_cons_succ]
   have HR2:=hid (unpin_ref h1 hpr)
   have HPN:=hid (pin_pins hpr HAG.out.2)
   clear hpr h1
   refine r1 13 (some 120) fun K hK=>?_
   go_simp
   refine (HR2.out).mono ?_
   rintro e w2 ⟨rfl,ls2,h2⟩
   refine hK.out _ _ h2.sq (fun hHeld=>?_)
   clear hK K
   try simp only [Act.put,List.setIfInBounds_toArray,List.set_cons_zero,List.set_cons_succ]
   have HR:Hid (Alike2 V cont _ c most xr k (B+1) [(q,Go.Proofs.YtcepognpbeahhaaGreatDoor.U.pairO c xr)]):=hid ⟨l1,x,vs,ls2,hv,h2.tail.less (by omega),HAG.out.1,HPN.out⟩
   clear h2 HPN HR2 HRL
   refine tk 14 121 ?_
   refine wpAnyH_done (by kernel_rfl) ?_ _
   clear hHeld HPC HBX HT0 HAG
   go_wp2_with fail
   go_meet
   exact HR.out
  by_cases e5:kd=5
  ·subst e5
   obtain ⟨c90,c91⟩:=HPC.out W0 HTW.out.sq
   have hrf:(risesE fFlush l).length<=12:=HRF.out
   have HFL:=hid ((HTW.out.less (k':=k+1+(risesE fFlush l).length) (by omega)).flush)
   go_wp2_with fail
   refine HFL.out.mono ?_
   rintro e w1 ⟨y,l1,x1,rfl,hfr,h1⟩
   have HFR:=hid (flush_ref HAG.out.1 hV hfr HTW.out.keys h1)
   have HPN:=hid (flush_pins HAG.out.1 hV hfr HTW.out.keys HAG.out.2)
   obtain ⟨rfl,_⟩:=(HAG.out.1).flush hV HTW.out.keys hfr
   clear c90 c91
   obtain ⟨c90,c91⟩:=HPC.out w1 h1.sq
   clear hfr h1 HFL
   go_wp2_with fail
   refine HFR.out.mono ?_
   rintro e w2 ⟨rfl,hv2,ls2,h2,hA2⟩
   have HR:Hid (Alike2 V cont _ c most xr k (B+1) [(q,Go.Proofs.YtcepognpbeahhaaGreatDoor.U.pairO c xr)]):=hid ⟨l1,x1,vs,ls2,hv2,h2.tail,hA2,fun e he=>Nat.le_succ_of_le (HPN.out e he)⟩
   clear h2 hA2 HPN HFR HPC HBX HT0 HAG HTW
   go_wp2_with fail
   go_meet
   exact HR.out
  by_cases e6:kd=6
  ·subst e6
   have hwx:IntKind.i64.wrap (xx:Int)=(xx:Int):=Go.IntWalk.i64_in _ ⟨by omega,by omega⟩
   generalize hs0:Sh.strL (List.replicate xx 0)=s0
   have HS0:=hid hs0
   clear hs0
   go_wp2_with fail
   refine wp_region_held_drew (S:=Go.Proofs.YtcepognpbeahhaaGreatDoor.Kc.SQ [(B0,.cells #[.int .i64 6,.int .i64 nm,.int .u8 (xx:Int)] 31 (0,0)),(q,Go.Proofs.YtcepognpbeahhaaGreatDoor.U.pairO c xr)]) (by kernel_rfl) HT0.out.sq (fun hHeld=>?_)
   refine tk 0 137 ?_
   refine tk 1 138 ?_
   refine tk 2 139 ?_
   refine wpAnyH_take (i:=3) (oi:=⟨some 140,_,_,_,_,_⟩) (v:=?_) rfl (by kernel_rfl) (by kernel_rfl) (by kernel_rfl) (fun _ _ _ h=>h) (Or.inl ⟨by rfl,?_⟩) (by assumption) ?_
   rotate_left
   ·(intro w hSw;obtain ⟨c90,c91⟩:=HPC.out w hSw;obtain ⟨b90,b91,b92⟩:=HBX.out w hSw;clear hSw;(try dsimp only at hSw);go_simp;first | done | with_reducible rfl)
   try simp only [Act.put,List.setIfInBounds_toArray,List.set_cons_zero,List.set_cons_succ]
   refine tk 4 141 ?_
   refine wpAnyH_take (i:=5) (oi:=⟨some 142,_,_,_,_,_⟩) (v:=?_) rfl (by kernel_rfl) (by kernel_rfl) (by kernel_rfl) (fun _ _ _ h=>h) (Or.inl ⟨by rfl,?_⟩) (by assumption) ?_
   rotate_left
   ·(intro w hSw;obtain ⟨c90,c91⟩:=HPC.out w hSw;obtain ⟨b90,b91,b92⟩:=HBX.out w hSw;clear hSw;(try dsimp only at hSw);go_simp;first | done | with_reducible rfl)
   try simp only [Act.put,List.setIfInBounds_toArray,List.set_cons_zero,List.set_cons_succ]
   refine tk 6 143 ?_
   refine wpAnyH_take (i:=7) (oi:=⟨some 144,_,_,_,_,_⟩) (v:=?_) rfl (by kernel_rfl) (by kernel_rfl) (by kernel_rfl) (fun _ _ _ h=>h) (Or.inl ⟨by rfl,?_⟩) (by assumption) ?_
   rotate_left
   ·(intro w hSw;obtain ⟨c90,c91⟩:=HPC.out w hSw;obtain ⟨b90,b91,b92⟩:=HBX.out w hSw;clear hSw;(try dsimp only at hSw);go_simp;first | done | with_reducible rfl)
   try simp only [Act.put,List.setIfInBounds_toArray,List.set_cons_zero,List.set_cons_succ]
   refine tk 8 145 ?_
   refine tk 11 148 ?_
   refine tk 12 149 ?_
   refine tk 13 150 ?_
   refine wpAnyH_take (i:=14) (oi:=⟨some 151,_,_,_,_,_⟩) (v:=?_) rfl (by kernel_rfl) (by kernel_rfl) (by kernel_rfl) (fun _ _ _ h=>h) (Or.inl ⟨by rfl,?_⟩) (by assumption) ?_
   rotate_left
   ·(intro w hSw;obtain ⟨c90,c91⟩:=HPC.out w hSw;obtain ⟨b90,b91,b92⟩:=HBX.out w hSw;clear hSw;(try dsimp only at hSw);go_simp;first | done | with_reducible rfl)
   try simp only [Act.put,List.setIfInBounds_toArray,List.set_cons_zero,List.set_cons_succ]
   refine tk 15 152 ?_
   refine wpAnyH_take (i:=16) (oi:=⟨some 153,_,_,_,_,_⟩) (v:=?_) rfl (by kernel_rfl) (by kernel_rfl) (by kernel_rfl) (fun _ _ _ h=>h) (Or.inl ⟨by rfl,?_⟩) (by assumption) ?_
   rotate_left
   ·(intro w hSw;obtain ⟨c90,c91⟩:=HPC.out w hSw;obtain ⟨b90,b91,b92⟩:=HBX.out w hSw;clear hSw;(try dsimp only at hSw);go_simp;first | done | with_reducible rfl)
   try simp only [Act.put,List.setIfInBounds_toArray,List.set_cons_zero,List.set_cons_succ]
   refine tk 17 154 ?_
   refine wpAnyH_take (i:=18) (oi:=⟨some 155,_,_,_,_,_⟩) (v:=?_) rfl (by kernel_rfl) (by kernel_rfl) (by kernel_rfl) (fun _ _ _ h=>h) (Or.inl ⟨by rfl,?_⟩) (by assumption) ?_
   rotate_left
   ·(intro w hSw;obtain ⟨c90,c91⟩:=HPC.out w hSw;obtain ⟨b90,b91,b92⟩:=HBX.out w hSw;clear hSw;(try dsimp only at hSw);go_simp;first | done | with_reducible rfl)
   try simp only [Act.put,List.setIfInBounds_toArray,List.set_cons_zero,List.set_cons_succ]
   refine tk 19 156 ?_
   refine wpAnyH_ready (rs:=[9,20]) (by kernel_rfl) (by simp) ?_
   refine AllReadyH.cons (o:=⟨some 146,_,_,_,_,_⟩) rfl (fun K hK=>?_) (AllReadyH.cons (o:=⟨some 157,_,_,_,_,_⟩) rfl (fun K hK=>?_) AllReadyH.nil)
   ·rw [if_pos (by rfl)]
    refine wp_makeN _ _ rfl hx rfl rfl (fun wA hoA hbA=>?_)
    obtain ⟨oA,hkA,hcA⟩:=own_convN hoA
    have HTA:=hid (HT0.out.add hbA (Nat.le_refl _) hkA)
    have HOA:=hid (And.intro hoA hkA)
    clear hoA hbA
    refine hK.out _ _ HTA.out.tail.sq (fun hHeld=>?_)
    clear hK K
    try simp only [Act.put,List.setIfInBounds_toArray,List.set_cons_zero,List.set_cons_succ]
    generalize haA:W0.drew.heap.size=aA at *
    have HPT:=hid (HTA.out.put3 (k:=k+14) nm HOA.out.1)
    clear hkA hcA
    refine wpAnyH_ready (rs:=[10,20]) (by kernel_rfl) (by simp) ?_
    refine AllReadyH.cons (o:=⟨some 147,_,_,_,_,_⟩) rfl (fun K hK=>?_) (AllReadyH.cons (o:=⟨some 157,_,_,_,_,_⟩) rfl (fun K hK=>?_) AllReadyH.nil)
    ·go_simp
     refine HPT.out.mono ?_
     rintro e w6 ⟨y,l6,x6,rfl,hput,h6⟩
     refine hK.out _ _ (h6.tail.sq) (fun hHeld=>?_)
     clear hK K
     try simp only [Act.put,List.setIfInBounds_toArray,List.set_cons_zero,List.set_cons_succ]
     have HPN:=hid (put_pins HAG.out.1 hV hput HAG.out.2)
     have HPU:=hid hput
     clear hput HPT
     have HT6:=hid h6
     clear h6 hHeld
     have hHeld:Go.Proofs.YtcepognpbeahhaaGreatDoor.Kc.SQ [(B0,.cells #[.int .i64 6,.int .i64 nm,.int .u8 (xx:Int)] 31 (0,0)),(q,Go.Proofs.YtcepognpbeahhaaGreatDoor.U.pairO c xr)] _:=HT6.out.tail.sq
     refine r1 20 (some 157) fun K hK=>?_
     rw [if_pos (by rfl)]
     refine wp_makeN _ _ rfl hx rfl rfl (fun wB hoB hbB=>?_)
     obtain ⟨oB,hkB,hcB⟩:=own_convN hoB
     have HTB:=hid (HT6.out.add hbB (Nat.le_refl _) hkB)
     have HOB:=hid (And.intro hoB hkB)
     clear hoB hbB
     refine hK.out _ _ HTB.out.tail.tail.sq (fun hHeld=>?_)
     clear hK K
     try simp only [Act.put,List.setIfInBounds_toArray,List.set_cons_zero,List.set_cons_succ]
     generalize haB:w6.heap.size=aB at *
     have HBY:Hid (∀W:World,Go.Proofs.YtcepognpbeahhaaGreatDoor.Kc.SQ [(aB,oB),(aA,oA),(B0,.cells #[.int .i64 6,.int .i64 nm,.int .u8 (xx:Int)] 31 (0,0)),(q,Go.Proofs.YtcepognpbeahhaaGreatDoor.U.pairO c xr)] W->(convert 40 9 (.slice (some ⟨aB,0,none⟩) xx xx)).run Tryz.prog W=.ok (.string s0) W):=hid fun W hW=>hcB W hW.head _ HS0.out
     refine Sh.wpAnyH_mono (S':=Go.Proofs.YtcepognpbeahhaaGreatDoor.Kc.SQ [(aB,oB),(aA,oA),(B0,.cells #[.int .i64 6,.int .i64 nm,.int .u8 (xx:Int)] 31 (0,0)),(q,Go.Proofs.YtcepognpbeahhaaGreatDoor.U.pairO c xr)]) (fun W hW=>hW.tail.tail) _ _ _ _ ?_
     clear hHeld
     have hHeld:(Go.Proofs.YtcepognpbeahhaaGreatDoor.Kc.SQ [(aB,oB),(aA,oA),(B0,.cells #[.int .i64 6,.int .i64 nm,.int .u8 (xx:Int)] 31 (0,0)),(q,Go.Proofs.YtcepognpbeahhaaGreatDoor.U.pairO c xr)]) _:=HTB.out.sq
     clear hkB hcB
     refine wpAnyH_take (i:=21) (oi:=⟨some 158,_,_,_,_,_⟩) (v:=?_) rfl (by kernel_rfl) (by kernel_rfl) (by kernel_rfl) (fun _ _ _ h=>h) (Or.inl ⟨by rfl,?_⟩) (by assumption) ?_
     rotate_left
     ·(intro w hSw;have c9:=HBY.out w hSw;clear hSw;(try dsimp only at hSw);go_simp;first | done | with_reducible rfl)
     try simp only [Act.put,List.setIfInBounds_toArray,List.set_cons_zero,List.set_cons_succ]
     clear HBY
     have HRF2:=hid (put_ref HAG.out.1 hV hmost HPU.out HTB.out)
     rw [HS0.out] at HRF2
     refine r1 22 (some 159) fun K hK=>?_
     go_simp
     refine HRF2.out.mono ?_
     rintro e w7 ⟨hv7,ls7,rfl,h7,hA7⟩
     refine hK.out _ _ (h7.sq) (fun hHeld=>?_)
     clear hK K
     try simp only [Act.put,List.setIfInBounds_toArray,List.set_cons_zero,List.set_cons_succ]
     have HR:Hid (Alike2 V cont _ c most xr k (B+1) [(q,Go.Proofs.YtcepognpbeahhaaGreatDoor.U.pairO c xr)]):=hid ⟨l6,x6,vs,ls7,hv7,h7.tail.tail.tail.less (by omega),hA7,fun e he=>Nat.le_succ_of_le (HPN.out e he)⟩
     clear h7 hA7 HRF2 HPN HPU
     refine tk 23 160 ?_
     refine wpAnyH_done (by kernel_rfl) ?_ _
     clear hHeld HPC HBX HT0 HAG HTW
     go_wp2_with fail
     go_meet
     exact HR.out
    ·rw [if_pos (by rfl)]
     refine wp_makeN _ _ rfl hx rfl rfl (fun wB hoB hbB=>?_)
     obtain ⟨oB,hkB,hcB⟩:=own_convN hoB
     have HTB:=hid (HTA.out.add hbB (Nat.le_refl _) hkB)
     have HOB:=hid (And.intro hoB hkB)
     clear hoB hbB
     refine hK.out _ _ HTB.out.tail.tail.sq (fun hHeld=>?_)
     clear hK K
     try simp only [Act.put,List.setIfInBounds_toArray,List.set_cons_zero,List.set_cons_succ]
     generalize haB:wA.heap.size=aB at *
     have HBY:Hid (∀W:World,Go.Proofs.YtcepognpbeahhaaGreatDoor.Kc.SQ [(aB,oB),(aA,oA),(B0,.cells #[.int .i64 6,.int .i64 nm,.int .u8 (xx:Int)] 31 (0,0)),(q,Go.Proofs.YtcepognpbeahhaaGreatDoor.U.pairO c xr)] W->(convert 40 9 (.slice (some ⟨aB,0,none⟩) xx xx)).run Tryz.prog W=.ok (.string s0) W):=hid fun W hW=>hcB W hW.head _ HS0.out
     refine Sh.wpAnyH_mono (S':=Go.Proofs.YtcepognpbeahhaaGreatDoor.Kc.SQ [(aB,oB),(aA,oA),(B0,.cells #[.int .i64 6,.int .i64 nm,.int .u8 (xx:Int)] 31 (0,0)),(q,Go.Proofs.YtcepognpbeahhaaGreatDoor.U.pairO c xr)]) (fun W hW=>hW.tail.tail) _ _ _ _ ?_
     clear hHeld
     have hHeld:(Go.Proofs.YtcepognpbeahhaaGreatDoor.Kc.SQ [(aB,oB),(aA,oA),(B0,.cells #[.int .i64 6,.int .i64 nm,.int .u8 (xx:Int)] 31 (0,0)),(q,Go.Proofs.YtcepognpbeahhaaGreatDoor.U.pairO c xr)]) _:=HTB.out.sq
     clear hkB hcB
     refine wpAnyH_take (i:=21) (oi:=⟨some 158,_,_,_,_,_⟩) (v:=?_) rfl (by kernel_rfl) (by kernel_rfl) (by kernel_rfl) (fun _ _ _ h=>h) (Or.inl ⟨by rfl,?_⟩) (by assumption) ?_
     rotate_left
     ·(intro w hSw;have c9:=HBY.out w hSw;clear hSw;(try dsimp only at hSw);go_simp;first | done | with_reducible rfl)
     try simp only [Act.put,List.setIfInBounds_toArray,List.set_cons_zero,List.set_cons_succ]
     clear HBY
     have HPT:=hid (HTB.out.swap.put3 (k:=k+14) nm (Sh.same_row HOA.out.1 fun b hb=>by injection hb with hb;rw [<- hb];exact HTB.out.tail.head.trans HOA.out.2.symm))
     refine r1 10 (some 147) fun K hK=>?_
     go_simp
     refine HPT.out.mono ?_
     rintro e w6 ⟨y,l6,x6,rfl,hput,h6⟩
     refine hK.out _ _ (h6.swap.sq) (fun hHeld=>?_)
     clear hK K
     try simp only [Act.put,List.setIfInBounds_toArray,List.set_cons_zero,List.set_cons_succ]
     have HPN:=hid (put_pins HAG.out.1 hV hput HAG.out.2)
     have HPU:=hid hput
     clear hput HPT
     have HT6:=hid h6.swap
     clear h6
     have HRF2:=hid (put_ref HAG.out.1 hV hmost HPU.out HT6.out)
     rw [HS0.out] at HRF2
     refine r1 22 (some 159) fun K hK=>?_
     go_simp
     refine HRF2.out.mono ?_
     rintro e w7 ⟨hv7,ls7,rfl,h7,hA7⟩
     refine hK.out _ _ (h7.sq) (fun hHeld=>?_)
     clear hK K
     try simp only [Act.put,List.setIfInBounds_toArray,List.set_cons_zero,List.set_cons_succ]
     have HR:Hid (Alike2 V cont _ c most xr k (B+1) [(q,Go.Proofs.YtcepognpbeahhaaGreatDoor.U.pairO c xr)]):=hid ⟨l6,x6,vs,ls7,hv7,h7.tail.tail.tail.less (by omega),hA7,fun e he=>Nat.le_succ_of_le (HPN.out e he)⟩
     clear h7 hA7 HRF2 HPN HPU
     refine tk 23 160 ?_
     refine wpAnyH_done (by kernel_rfl) ?_ _
     clear hHeld HPC HBX HT0 HAG HTW
     go_wp2_with fail
     go_meet
     exact HR.out
   ·rw [if_pos (by rfl)]
    refine wp_makeN _ _ rfl hx rfl rfl (fun wB hoB hbB=>?_)
    obtain ⟨oB,hkB,hcB⟩:=own_convN hoB
    have HTB:=hid (HT0.out.add hbB (Nat.le_refl _) hkB)
    have HOB:=hid (And.intro hoB hkB)
    clear hoB hbB
    refine hK.out _ _ HTB.out.tail.sq (fun hHeld=>?_)
    clear hK K
    try simp only [Act.put,List.setIfInBounds_toArray,List.set_cons_zero,List.set_cons_succ]
    generalize haB:W0.drew.heap.size=aB at *
    have HBY:Hid (∀W:World,Go.Proofs.YtcepognpbeahhaaGreatDoor.Kc.SQ [(aB,oB),(B0,.cells #[.int .i64 6,.int .i64 nm,.int .u8 (xx:Int)] 31 (0,0)),(q,Go.Proofs.YtcepognpbeahhaaGreatDoor.U.pairO c xr)] W->(convert 40 9 (.slice (some ⟨aB,0,none⟩) xx xx)).run Tryz.prog W=.ok (.string s0) W):=hid fun W hW=>hcB W hW.head _ HS0.out
    refine Sh.wpAnyH_mono (S':=Go.Proofs.YtcepognpbeahhaaGreatDoor.Kc.SQ [(aB,oB),(B0,.cells #[.int .i64 6,.int .i64 nm,.int .u8 (xx:Int)] 31 (0,0)),(q,Go.Proofs.YtcepognpbeahhaaGreatDoor.U.pairO c xr)]) (fun W hW=>hW.tail) _ _ _ _ ?_
    clear hHeld
    have hHeld:(Go.Proofs.YtcepognpbeahhaaGreatDoor.Kc.SQ [(aB,oB),(B0,.cells #[.int .i64 6,.int .i64 nm,.int .u8 (xx:Int)] 31 (0,0)),(q,Go.Proofs.YtcepognpbeahhaaGreatDoor.U.pairO c xr)]) _:=HTB.out.sq
    clear hkB hcB
    refine wpAnyH_take (i:=21) (oi:=⟨some 158,_,_,_,_,_⟩) (v:=?_) rfl (by kernel_rfl) (by kernel_rfl) (by kernel_rfl) (fun _ _ _ h=>h) (Or.inl ⟨by rfl,?_⟩) (by assumption) ?_
    rotate_left
    ·(intro w hSw;have c9:=HBY.out w hSw;clear hSw;(try dsimp only at hSw);go_simp;first | done | with_reducible rfl)
    try simp only [Act.put,List.setIfInBounds_toArray,List.set_cons_zero,List.set_cons_succ]
    clear HBY
    refine r1 9 (some 146) fun K hK=>?_
    rw [if_pos (by rfl)]
    refine wp_makeN _ _ rfl hx rfl rfl (fun wA hoA hbA=>?_)
    obtain ⟨oA,hkA,hcA⟩:=own_convN hoA
    have HTA:=hid (HTB.out.add hbA (Nat.le_refl _) hkA)
    have HOA:=hid (And.intro hoA hkA)
    clear hoA hbA
    refine hK.out _ _ HTA.out.tail.sq (fun hHeld=>?_)
    clear hK K
    try simp only [Act.put,List.setIfInBounds_toArray,List.set_cons_zero,List.set_cons_succ]
    generalize haA:wB.heap.size=aA at *
    have HPT:=hid (HTA.out.put3 (k:=k+14) nm HOA.out.1)
    clear hkA hcA
    refine r1 10 (some 147) fun K hK=>?_
    go_simp
    refine HPT.out.mono ?_
    rintro e w6 ⟨y,l6,x6,rfl,hput,h6⟩
    refine hK.out _ _ (h6.tail.sq) (fun hHeld=>?_)
    clear hK K
    try simp only [Act.put,List.setIfInBounds_toArray,List.set_cons_zero,List.set_cons_succ]
    have HPN:=hid (put_pins HAG.out.1 hV hput HAG.out.2)
    have HPU:=hid hput
    clear hput HPT
    have HT6:=hid h6
    clear h6
    have HRF2:=hid (put_ref HAG.out.1 hV hmost HPU.out HT6.out)
    rw [HS0.out] at HRF2
    refine r1 22 (some 159) fun K hK=>?_
    go_simp
    refine HRF2.out.mono ?_
    rintro e w7 ⟨hv7,ls7,rfl,h7,hA7⟩
    refine hK.out _ _ (h7.tail.sq) (fun hHeld=>?_)
    clear hK K
    try simp only [Act.put,List.setIfInBounds_toArray,List.set_cons_zero,List.set_cons_succ]
    have HR:Hid (Alike2 V cont _ c most xr k (B+1) [(q,Go.Proofs.YtcepognpbeahhaaGreatDoor.U.pairO c xr)]):=hid ⟨l6,x6,vs,ls7,hv7,h7.tail.tail.tail.less (by omega),hA7,fun e he=>Nat.le_succ_of_le (HPN.out e he)⟩
    clear h7 hA7 HRF2 HPN HPU
    refine tk 23 160 ?_
    refine wpAnyH_done (by kernel_rfl) ?_ _
    clear hHeld HPC HBX HT0 HAG HTW
    go_wp2_with fail
    go_meet
    exact HR.out
  have HR:Hid (Alike2 V cont W0 c most xr k (B+1) [(q,Go.Proofs.YtcepognpbeahhaaGreatDoor.U.pairO c xr)]):=hid ⟨l,x,vs,ls,hv,HTW.out.tail.less (by omega),HAG.out.1,fun e he=>Nat.le_succ_of_le (HAG.out.2 e he)⟩
  clear HPC HBX HT0 HAG HTW
  go_wp2_with fail
  go_meet
  exact HR.out
 case rest =>
  obtain ⟨lx,x1,vs1,ls1,hv1,h3,hA1,hp1⟩:=hcut.out
  have hlen:=h3.len
  have HTW:=hid (h3.grown (show Below wc.heap.size wc wc.drew from (Below.refl _ wc).drew))
  have HAG:=hid (And.intro hA1 hp1)
  have HLN:Hid (lx.length<=1048576):=hid (by omega)
  have HDR:=hid (dirts_rises h3.keys h3.rf.lows)
  have HLR:Hid ((risesE En.dirty lx).length<=1048576):=hid (Nat.le_trans Go.Proofs.YtcepognpbeahhaaGreatDoor.Kc.rises_few (by omega))
  have HPC:Hid (∀W:World,Go.Proofs.YtcepognpbeahhaaGreatDoor.Kc.SQ [(q,Go.Proofs.YtcepognpbeahhaaGreatDoor.U.pairO c xr)] W->W.cell? ⟨q,0,none⟩=some (.pointer (some ⟨c,0,none⟩))/\W.cell? ⟨q,1,none⟩=some (.pointer (some ⟨xr,0,none⟩))):=hid fun W hW=>⟨cell_of_row _ _ 0 _ _ _ (hW _ ((List.mem_cons_self ..))),cell_of_row _ _ 1 _ _ _ (hW _ ((List.mem_cons_self ..)))⟩
  clear h3 hA1 hp1 hlen hcut
  go_wp2_with fail
  refine wp_region_held_drew (S:=Go.Proofs.YtcepognpbeahhaaGreatDoor.Kc.SQ [(q,Go.Proofs.YtcepognpbeahhaaGreatDoor.U.pairO c xr)]) (by kernel_rfl) HTW.out.sq (fun hHeld=>?_)
  refine tk 0 161 ?_
  refine tk 1 162 ?_
  refine tk 2 163 ?_
  refine wpAnyH_take (i:=3) (oi:=⟨some 164,_,_,_,_,_⟩) (v:=?_) rfl (by kernel_rfl) (by kernel_rfl) (by kernel_rfl) (fun _ _ _ h=>h) (Or.inl ⟨by rfl,?_⟩) (by assumption) ?_
  rotate_left
  ·(intro w hSw;obtain ⟨c90,c91⟩:=HPC.out w hSw;clear hSw;(try dsimp only at hSw);go_simp;first | done | with_reducible rfl)
  try simp only [Act.put,List.setIfInBounds_toArray,List.set_cons_zero,List.set_cons_succ]
  refine tk 5 166 ?_
  refine tk 6 167 ?_
  refine tk 7 168 ?_
  refine wpAnyH_take (i:=8) (oi:=⟨some 169,_,_,_,_,_⟩) (v:=?_) rfl (by kernel_rfl) (by kernel_rfl) (by kernel_rfl) (fun _ _ _ h=>h) (Or.inl ⟨by rfl,?_⟩) (by assumption) ?_
  rotate_left
  ·(intro w hSw;obtain ⟨c90,c91⟩:=HPC.out w hSw;clear hSw;(try dsimp only at hSw);go_simp;first | done | with_reducible rfl)
  try simp only [Act.put,List.setIfInBounds_toArray,List.set_cons_zero,List.set_cons_succ]
  refine r1 4 (some 165) fun K hK=>?_
  go_simp
  refine (HTW.out.blocks).mono ?_
  rintro e w1 ⟨v1,rfl,hr1,hb1⟩
  refine hK.out _ _ ((HTW.out.grown hb1).sq) (fun hHeld=>?_)
  clear hK K
  try simp only [Act.put,List.setIfInBounds_toArray,List.set_cons_zero,List.set_cons_succ]
  have HT1:=hid (HTW.out.grown hb1)
  have HR1:=hid hr1
  clear hr1 hb1
  refine r1 9 (some 170) fun K hK=>?_
  go_simp
  refine (rBlocks HT1.out.rf).mono ?_
  rintro e w2 ⟨v2,rfl,hr2,hb2⟩
  refine hK.out _ _ ((HT1.out.grown hb2).sq) (fun hHeld=>?_)
  clear hK K
  try simp only [Act.put,List.setIfInBounds_toArray,List.set_cons_zero,List.set_cons_succ]
  have HT2:=hid (HT1.out.grown hb2)
  have HU1:=hid (alike_rows (zs:=lx.map fun e=>(e.k:Int)) (by rw [List.length_map];exact HLN.out) (b1:=wc.drew.heap.size) (b2:=w1.heap.size) (by rw [List.length_map,List.map_map];exact Sh.same_row HR1.out fun b hb=>hb2.block b (HR1.out.lt b hb).2) (by rw [List.length_map,List.map_map];exact hr2))
  clear hr2 hb2 HR1
  refine r1 10 (some 171) fun K hK=>?_
  go_simp
  refine (HU1.out).mono ?_
  rintro e w3 ⟨rfl,hb3⟩
  refine hK.out _ _ ((HT2.out.grown hb3).sq) (fun hHeld=>?_)
  clear hK K
  try simp only [Act.put,List.setIfInBounds_toArray,List.set_cons_zero,List.set_cons_succ]
  have HT3:=hid (HT2.out.grown hb3)
  clear hb3 HU1
  refine tk 11 172 ?_
  refine tk 12 173 ?_
  refine tk 13 174 ?_
  refine tk 14 175 ?_
  refine tk 15 176 ?_
  refine wpAnyH_take (i:=16) (oi:=⟨some 177,_,_,_,_,_⟩) (v:=?_) rfl (by kernel_rfl) (by kernel_rfl) (by kernel_rfl) (fun _ _ _ h=>h) (Or.inl ⟨by rfl,?_⟩) (by assumption) ?_
  rotate_left
  ·(intro w hSw;obtain ⟨c90,c91⟩:=HPC.out w hSw;clear hSw;(try dsimp only at hSw);go_simp;first | done | with_reducible rfl)
  try simp only [Act.put,List.setIfInBounds_toArray,List.set_cons_zero,List.set_cons_succ]
  refine tk 18 179 ?_
  refine tk 19 180 ?_
  refine tk 20 181 ?_
  refine wpAnyH_take (i:=21) (oi:=⟨some 182,_,_,_,_,_⟩) (v:=?_) rfl (by kernel_rfl) (by kernel_rfl) (by kernel_rfl) (fun _ _ _ h=>h) (Or.inl ⟨by rfl,?_⟩) (by assumption) ?_
  rotate_left
  ·(intro w hSw;obtain ⟨c90,c91⟩:=HPC.out w hSw;clear hSw;(try dsimp only at hSw);go_simp;first | done | with_reducible rfl)
  try simp only [Act.put,List.setIfInBounds_toArray,List.set_cons_zero,List.set_cons_succ]
  refine r1 17 (some 178) fun K hK=>?_
  go_simp
  refine (HT3.out.dirties).mono ?_
  rintro e w4 ⟨v4,rfl,hr4,hb4⟩
  refine hK.out _ _ ((HT3.out.grown hb4).sq) (fun hHeld=>?_)
  clear hK K
  try simp only [Act.put,List.setIfInBounds_toArray,List.set_cons_zero,List.set_cons_succ]
  have HT4:=hid (HT3.out.grown hb4)
  have HR4:=hid hr4
  clear hr4 hb4
  refine r1 22 (some 183) fun K hK=>?_
  go_simp
  refine (rDirty HT4.out.rf).mono ?_
  rintro e w5 ⟨v5,rfl,hr5,hb5⟩
  refine hK.out _ _ ((HT4.out.grown hb5).sq) (fun hHeld=>?_)
  clear hK K
  try simp only [Act.put,List.setIfInBounds_toArray,List.set_cons_zero,List.set_cons_succ]
  have HT5:=hid (HT4.out.grown hb5)
  rw [HDR.out] at hr5
  have HU2:=hid (alike_rows HLR.out (Sh.same_row HR4.out fun b hb=>hb5.block b (HR4.out.lt b hb).2) hr5)
  clear hr5 hb5 HR4
  refine r1 23 (some 184) fun K hK=>?_
  go_simp
  refine (HU2.out).mono ?_
  rintro e w6 ⟨rfl,hb6⟩
  refine hK.out _ _ ((HT5.out.grown hb6).sq) (fun hHeld=>?_)
  clear hK K
  try simp only [Act.put,List.setIfInBounds_toArray,List.set_cons_zero,List.set_cons_succ]
  have HT6:=hid (HT5.out.grown hb6)
  clear hb6 HU2
  refine tk 24 185 ?_
  refine tk 25 186 ?_
  refine tk 26 4 ?_
  refine wpAnyH_done (by kernel_rfl) ?_ _
  clear hHeld HPC
  go_wp2
  go_ret
  exact ⟨rfl,lx,x1,vs1,ls1,hv1,HT6.out.less (Nat.le_refl _),HAG.out.1,HAG.out.2⟩
end
open Go.Proofs.YtcepognpbeahhaaGreatDoor.Kc (En VolK CQ AllC)
open Go.Proofs.YtcepognpbeahhaaGreatDoor.U
theorem hv_sure {J:Vk} {hG:Giv J ar10} {hN:ar10.St*(ar10.M-1)<=1073741824}:Vsure (Hv J ar10 hG hN) (fun (x:Rs) j=>contR ar10 x j) :=
 ⟨rfl,fun h=>⟨h.1,h.2.1,fun j _=>h.2.2 j⟩,fun h=>⟨h.1,fun j hj=>h.2 j hj⟩,fun h=>⟨h.1,fun j _=>h.2 j⟩⟩
theorem beg_two {w w':World} {J:Vk} {hG:Giv J ar10} {hN:ar10.St*(ar10.M-1)<=1073741824} {q xr n:Nat} {g:Go.Proofs.YtcepognpbeahhaaGreatDoor.Kc.Cg} {x:Rs} (h:Beg w J hG hN q xr g x n w') :
  ∃vs,Two (Hv J ar10 hG hN) w' g.c n [] x 390000 xr vs (.slice none 0 0) (fun _=>Sh.noughts) [] [(q,pairO g.c xr)]:=by
 obtain ⟨vs,m1,m2,m3⟩:=h.model
 have hvx:vs.ownBlock≠some xr:=fun e=>by
  obtain ⟨b,cap,hv,_⟩:=m2.form (by decide)
  rcases m2.2 with ⟨e1,_⟩ | ⟨gg,cc,cur,e1,_,e2,_⟩
  ·rw [e1] at hv;cases hv
  ·rw [e1] at e
   injection e with e
   have e:gg=xr:=e
   rw [e,m1] at e2
   simp at e2
 have hrf:RfIs w' xr vs (.slice none 0 0) n (fun _=>Sh.noughts) []:=⟨m1,by
  have e:rowV (fun _=>Sh.noughts)=List.replicate 12 (Sh.sv Sh.noughts):=by unfold rowV;simp [Sh.sv,List.replicate];rfl
  rw [e];exact m2,World.ownsRow_nil _ _ _ _,(fun b _ q=>by cases q),hvx,(fun q=>by cases q),by decide,List.Pairwise.nil,(fun e he=>by cases he),(fun e he=>by cases he)⟩
 refine ⟨vs,hrf,⟨(xr :: vs.ownBlock.toList).filterMap (fun b=>(w'.heap[b]?).map fun o=>(b,o)),fun b hb=>?_,fun z hz=>?_,g,rfl,h.cav,fun z hz=>?_⟩,fun z hz e=>?_⟩
 ·have hlt:=hrf.lt hb
  refine ⟨w'.heap[b],List.mem_filterMap.2 ⟨b,?_,by rw [Array.getElem?_eq_getElem hlt];rfl⟩⟩
  rcases hb with q | q | q
  ·rw [q];exact List.mem_cons_self ..
  ·exact List.mem_cons_of_mem _ (by rw [q];simp)
  ·cases q
 ·obtain ⟨b,hb,hz2⟩:=List.mem_filterMap.1 hz
  obtain ⟨o,_,rfl⟩:=Option.map_eq_some_iff.1 hz2
  rcases List.mem_cons.1 hb with q | q
  ·exact .inl q
  ·exact .inr (.inl (by simpa using q))
 ·rcases List.mem_append.1 hz with q2 | q2
  ·obtain ⟨b,hb,hz2⟩:=List.mem_filterMap.1 q2
   obtain ⟨o,ho,rfl⟩:=Option.map_eq_some_iff.1 hz2
   refine ⟨ho,fun e=>?_⟩
   have h1:=h.out b e
   rcases List.mem_cons.1 hb with q | q
   ·omega
   ·have:=(m2.lt b (by simpa using q)).1
    omega
  ·rw [List.mem_singleton.1 q2]
   refine ⟨h.pair,fun e=>?_⟩
   have h1:=h.out q e
   have h2:=h.lt
   omega
 ·rw [List.mem_singleton.1 hz] at e
  rcases e with q2 | q2 | q2
  ·have:=h.lt
   have q2:q=xr:=q2
   omega
  ·exact m3 q2
  ·cases q2
set_option maxRecDepth 20000 in
theorem begin_bad {w:World} (hA:All10 w) (n:Int) (h:n<1\/1024<n):Calls Tryz.prog 10 #[.int .i64 n] w fun e w'=>e=.returned (.tuple #[.pointer none,.pointer none,.pointer none])/\Below w.heap.size w w':=by
 have HV:=hid (volume_any hA)
 clear hA
 go_enter Tryz.func10,Tryz.ntmps10
 go_wp2_with fail
 refine HV.out.mono ?_
 rintro e w1 ⟨J,x0,p,rfl,hG,hI,hcont,hB,hW⟩
 have HNEW:=hid (Go.Proofs.YtcepognpbeahhaaGreatDoor.Kc.cNew_no (some ⟨J.v,0,none⟩) n w1 (.inr h))
 have HBL:Hid (Below w.heap.size w w1):=hid (by have:=hI.vr.bel;rw [hB,hW] at this;exact this)
 clear hI HV hcont hB hW
 go_wp2_with fail
 refine HNEW.out.mono ?_
 rintro e w2 ⟨rfl,rfl⟩
 go_wp2
 go_ret3
 exact ⟨rfl,HBL.out⟩
end Go.Proofs.YtcepognpbeahhaaGreatDoor.Rc
