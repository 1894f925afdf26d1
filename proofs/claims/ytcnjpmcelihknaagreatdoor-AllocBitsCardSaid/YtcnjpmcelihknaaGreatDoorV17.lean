/-
  What the statement's proof rests on, part 17.
  Conditions: each theorem's own.
-/
import Derived.Test.YtcnjpmcelihknaaGreatDoorV16
import Derived.Test.YtcnjpmcelihknaaGreatDoorV07
import Derived.Test.YtcnjpmcelihknaaGreatDoorV09
import Derived.Test.YtcnjpmcelihknaaGreatDoorVtk
open Go.Lib (hid)
namespace Go.Proofs.YtcnjpmcelihknaaGreatDoor.S
open Go.RowKit
set_option maxRecDepth 100000 in
set_option maxHeartbeats 4000000 in
theorem right_no7 (s:Sup) (w:World) (h1:(1<=s.gen/\s.gen<=4611686018427387904)) (h2:(3<=s.mem/\s.mem<=16)) (h3:(0<=s.disk/\s.disk<=s.mem)) (h4:(1<=s.str/\s.str<=1024)) (h5:(1<=s.logs/\s.logs<=8)) (h6:(-1<=s.spare/\s.spare<=s.mem-1)) (h7:¬(0<=s.mark/\s.mark<=s.most)) :
  Calls Tryz.prog 130 #[s.val] w fun e w'=>e=.returned (.bool false)/\Below w.heap.size w w':=by
 have hm:=hid (fun w=>mostMark_any s w)
 have Q:=hid within_yes
 have QF:=hid within_not
 have w1:IntKind.i64.wrap (s.mem-1)=s.mem-1:=by rw [IntKind.wrap_i64];omega
 have hblk:=heap_alloc_last w (.cells s.cells 123)
 have hK:=row8 hblk
 clear hblk
 obtain ⟨x0,x1,x2,x3,x4,x5,x6,x7⟩:=s
 simp only [Sup.val,Sup.cells] at *
 go_enter Tryz.func130,Tryz.ntmps130
 have hbW:Below w.heap.size w (w.alloc (.cells #[.int .i64 x0,.int .i64 x1,.int .i64 x2,.int .i64 x3,.int .i64 x4,.int .i64 x5,.int .i64 x6,.int .i64 x7] 123)):=(Below.refl _ _).alloc (Nat.le_refl _) _
 have hgW:w.heap.size<(w.alloc (.cells #[.int .i64 x0,.int .i64 x1,.int .i64 x2,.int .i64 x3,.int .i64 x4,.int .i64 x5,.int .i64 x6,.int .i64 x7] 123)).heap.size:=by simp
 generalize Sup.most ⟨x0,x1,x2,x3,x4,x5,x6,x7⟩=mm at *
 go_wp2_with fail
 generalize w.alloc (.cells #[.int .i64 x0,.int .i64 x1,.int .i64 x2,.int .i64 x3,.int .i64 x4,.int .i64 x5,.int .i64 x6,.int .i64 x7] 123)=W at *
 generalize hgs:w.heap.size=g at *
 have Hgs:=hid hgs
 clear hgs
 have hk:∀i W',Below W.heap.size W W'->W'.cell? ⟨g,i,none⟩=W.cell? ⟨g,i,none⟩:=fun i W' hb=>hb.cell (p:=⟨g,i,none⟩) hgW
 have k0:=fun W' (h:Below W.heap.size W W')=>(hk 0 W' h).trans hK.1
 have k1:=fun W' (h:Below W.heap.size W W')=>(hk 1 W' h).trans hK.2.1
 have k2:=fun W' (h:Below W.heap.size W W')=>(hk 2 W' h).trans hK.2.2.1
 have k3:=fun W' (h:Below W.heap.size W W')=>(hk 3 W' h).trans hK.2.2.2.1
 have k4:=fun W' (h:Below W.heap.size W W')=>(hk 4 W' h).trans hK.2.2.2.2.1
 have k5:=fun W' (h:Below W.heap.size W W')=>(hk 5 W' h).trans hK.2.2.2.2.2.1
 have k6:=fun W' (h:Below W.heap.size W W')=>(hk 6 W' h).trans hK.2.2.2.2.2.2.1
 have k7:=fun W' (h:Below W.heap.size W W')=>(hk 7 W' h).trans hK.2.2.2.2.2.2.2
 clear hk hK
 have HbW:=hid (hbW.mono (Nat.le_refl g))
 have hgW2:=hid (Nat.le_of_lt hgW)
 clear hbW hgW
 refine wp_region_held_drew (S:=fun W'=>Below W.heap.size W W') (by kernel_rfl) ((Below.refl _ _).drew) (fun hHeld=>?_)
 refine tk 0 3 ?_
 refine tk 1 4 ?_
 refine r1 2 (some 5) fun K hK=>?_
 go_simp
 refine (Q.out _ _ _ h1 _).mono ?_
 rintro e w9 ⟨rfl,rfl⟩
 refine hK.out _ _ (hHeld) (fun hHeld=>?_)
 clear hK K
 try simp only [Act.put,List.setIfInBounds_toArray,List.set_cons_zero,List.set_cons_succ]
 refine tk 3 6 ?_
 refine tk 4 7 ?_
 refine tk 5 8 ?_
 refine r1 6 (some 9) fun K hK=>?_
 go_simp
 refine (Q.out _ _ _ h2 _).mono ?_
 rintro e w9 ⟨rfl,rfl⟩
 refine hK.out _ _ (hHeld) (fun hHeld=>?_)
 clear hK K
 try simp only [Act.put,List.setIfInBounds_toArray,List.set_cons_zero,List.set_cons_succ]
 refine tk 7 10 ?_
 refine tk 8 11 ?_
 refine tk 9 12 ?_
 refine tk 10 13 ?_
 refine tk 11 14 ?_
 refine tk 12 15 ?_
 refine r1 13 (some 16) fun K hK=>?_
 go_simp
 refine (Q.out _ _ _ h3 _).mono ?_
 rintro e w9 ⟨rfl,rfl⟩
 refine hK.out _ _ (hHeld) (fun hHeld=>?_)
 clear hK K
 try simp only [Act.put,List.setIfInBounds_toArray,List.set_cons_zero,List.set_cons_succ]
 refine tk 14 17 ?_
 refine tk 15 18 ?_
 refine tk 16 19 ?_
 refine tk 17 20 ?_
 refine r1 18 (some 21) fun K hK=>?_
 go_simp
 refine (Q.out _ _ _ h4 _).mono ?_
 rintro e w9 ⟨rfl,rfl⟩
 refine hK.out _ _ (hHeld) (fun hHeld=>?_)
 clear hK K
 try simp only [Act.put,List.setIfInBounds_toArray,List.set_cons_zero,List.set_cons_succ]
 refine tk 19 22 ?_
 refine tk 20 23 ?_
 refine tk 21 24 ?_
 refine tk 22 25 ?_
 refine r1 23 (some 26) fun K hK=>?_
 go_simp
 refine (Q.out _ _ _ h5 _).mono ?_
 rintro e w9 ⟨rfl,rfl⟩
 refine hK.out _ _ (hHeld) (fun hHeld=>?_)
 clear hK K
 try simp only [Act.put,List.setIfInBounds_toArray,List.set_cons_zero,List.set_cons_succ]
 refine tk 24 27 ?_
 refine tk 25 28 ?_
 refine tk 26 29 ?_
 refine tk 27 30 ?_
 refine tk 28 31 ?_
 refine tk 29 32 ?_
 refine tk 30 33 ?_
 refine r1 31 (some 34) fun K hK=>?_
 go_simp
 refine (Q.out _ _ _ h6 _).mono ?_
 rintro e w9 ⟨rfl,rfl⟩
 refine hK.out _ _ (hHeld) (fun hHeld=>?_)
 clear hK K
 try simp only [Act.put,List.setIfInBounds_toArray,List.set_cons_zero,List.set_cons_succ]
 refine tk 32 35 ?_
 refine tk 33 36 ?_
 refine tk 34 37 ?_
 refine tk 35 38 ?_
 refine tk 36 39 ?_
 refine r1 37 (some 40) fun K hK=>?_
 go_simp
 refine (hm.out _).mono ?_
 rintro e w9 ⟨rfl,hb9⟩
 refine hK.out _ _ (below_on hHeld hb9) (fun hHeld=>?_)
 clear hK K
 try simp only [Act.put,List.setIfInBounds_toArray,List.set_cons_zero,List.set_cons_succ]
 refine r1 38 (some 41) fun K hK=>?_
 go_simp
 refine (QF.out _ _ _ h7 _).mono ?_
 rintro e w10 ⟨rfl,rfl⟩
 refine hK.out _ _ (hHeld) (fun hHeld=>?_)
 clear hK K
 try simp only [Act.put,List.setIfInBounds_toArray,List.set_cons_zero,List.set_cons_succ]
 refine tk 39 42 ?_
 refine tk 40 43 ?_
 refine tu 41 44 ?_
 refine tu 42 45 ?_
 refine tu 43 46 ?_
 refine tu 44 47 ?_
 refine tu 45 48 ?_
 refine tu 46 49 ?_
 refine tk 47 50 ?_
 refine tk 48 2 ?_
 refine wpAnyH_done (by kernel_rfl) ?_ _
 go_wp2
 go_ret
 exact ⟨rfl,by rw [Hgs.out];exact HbW.out.trans (hHeld.mono hgW2.out)⟩
theorem right_any (s:Sup) (w:World) :
  Calls Tryz.prog 130 #[s.val] w fun e w'=>e=.returned (.bool s.right)/\Below w.heap.size w w':=by
 unfold Sup.right
 by_cases h1:(1<=s.gen/\s.gen<=4611686018427387904)
 ·by_cases h2:(3<=s.mem/\s.mem<=16)
  ·by_cases h3:(0<=s.disk/\s.disk<=s.mem)
   ·by_cases h4:(1<=s.str/\s.str<=1024)
    ·by_cases h5:(1<=s.logs/\s.logs<=8)
     ·by_cases h6:(-1<=s.spare/\s.spare<=s.mem-1)
      ·by_cases h7:(0<=s.mark/\s.mark<=s.most)
       ·by_cases h8:(0<=s.cur/\s.cur<=s.str-1)
        ·rw [decide_eq_true h1,decide_eq_true h2,decide_eq_true h3,decide_eq_true h4,decide_eq_true h5,decide_eq_true h6,decide_eq_true h7,decide_eq_true h8]
         exact right_yes s w h1 h2 h3 h4 h5 h6 h7 h8
        ·rw [decide_eq_true h1,decide_eq_true h2,decide_eq_true h3,decide_eq_true h4,decide_eq_true h5,decide_eq_true h6,decide_eq_true h7,decide_eq_false h8]
         exact right_no8 s w h1 h2 h3 h4 h5 h6 h7 h8
       ·rw [decide_eq_true h1,decide_eq_true h2,decide_eq_true h3,decide_eq_true h4,decide_eq_true h5,decide_eq_true h6,decide_eq_false h7]
        exact right_no7 s w h1 h2 h3 h4 h5 h6 h7
      ·rw [decide_eq_true h1,decide_eq_true h2,decide_eq_true h3,decide_eq_true h4,decide_eq_true h5,decide_eq_false h6]
       exact right_no6 s w h1 h2 h3 h4 h5 h6
     ·rw [decide_eq_true h1,decide_eq_true h2,decide_eq_true h3,decide_eq_true h4,decide_eq_false h5]
      exact right_no5 s w h1 h2 h3 h4 h5
    ·rw [decide_eq_true h1,decide_eq_true h2,decide_eq_true h3,decide_eq_false h4]
     exact right_no4 s w h1 h2 h3 h4
   ·rw [decide_eq_true h1,decide_eq_true h2,decide_eq_false h3]
    exact right_no3 s w h1 h2 h3
  ·rw [decide_eq_true h1,decide_eq_false h2]
   exact right_no2 s w h1 h2
 ·rw [decide_eq_false h1]
  exact right_no1 s w h1
theorem own_whole {w:World} {base:Nat} {e:TypeId} {n g:Nat} {xs:List Value} (h:w.ownsRow base e 1 (.slice (some ⟨g,0,none⟩) n n) n xs):w.heap[g]?=some (.cells xs.toArray e (0,0)):=by
 rcases h.2 with ⟨h0,_⟩ | ⟨g',cap,cur,hv,_,hh,_,_,hs,ht⟩
 ·cases h0
 ·injection hv with h1 _ h3
  injection h1 with h1
  injection h1 with h1
  subst h1 h3
  rw [hh]
  have e2:cur.toList=xs:=by
   rw [<- ht,List.take_of_length_le (by simp [hs])]
  rw [<- e2]
theorem own_of {w:World} {base:Nat} {e:TypeId} {n g:Nat} {xs:List Value} (h:w.heap[g]?=some (.cells xs.toArray e (0,0))) (hb:base<=g) (hn:xs.length=n) (hm:n<=maxLen):w.ownsRow base e 1 (.slice (some ⟨g,0,none⟩) n n) n xs :=
 ⟨by omega,.inr ⟨g,n,xs.toArray,rfl,hb,h,Nat.le_refl _,hm,by simp [hn],by rw [Nat.mul_one,<- hn];exact List.take_length⟩⟩
theorem zeros_own {w:World} {base g:Nat} (h:w.ownsRow base 5 1 (.slice (some ⟨g,0,none⟩) 128 128) 128 (madeCells (Value.int .u8 0).cells (128*1)).toList):w.ownsRow base 5 1 (.slice (some ⟨g,0,none⟩) 128 128) 128 (bts (List.replicate 128 0)):=by
 have e:(madeCells (Value.int .u8 0).cells (128*1)).toList=bts (List.replicate 128 0):=(toList_madeCells_one _ _).trans (by simp [bts])
 rw [e] at h
 exact h
theorem reads_row {w:World} {g:Nat} {l:List Nat} {e:TypeId} (h:w.heap[g]?=some (.cells (bts l).toArray e (0,0))) (hg:g<w.heap.size) (hl:l.length=128):Reads w w.heap.size (some ⟨g,0,none⟩) 128 (bts l):=by
 refine ⟨by rw [bts_length,hl],fun _=>⟨_,rfl,hg,fun j u hu=>?_⟩⟩
 have hadd:(⟨g,0,none⟩:Addr).add j=⟨g,j,none⟩:=by unfold Addr.add;split<;>simp_all
 rw [hadd,cell_of_row _ _ j _ _ _ h,List.getElem?_toArray];exact hu
theorem splice_whole {α:Type} {cur cs:List α} (h:cs.length=cur.length):splice cur 0 cs=cs:=by
 unfold splice
 rw [Nat.zero_add,List.drop_eq_nil_of_le (by omega)]
 simp
def Fresh (w:World) (l:List Nat) (e:Ending) (w':World):Prop :=
 ∃g,e=.returned (.tuple #[.slice (some ⟨g,0,none⟩) 128 128,.int .i64 0])/\w'.ownsRow w.heap.size 5 1 (.slice (some ⟨g,0,none⟩) 128 128) 128 (bts l)/\Below w.heap.size w w'
set_option maxRecDepth 100000 in
set_option maxHeartbeats 4000000 in
theorem encode_ok (s:Sup) (w:World) (hr:s.right=true) (hT:Tabs w) (hW:Wid w) :
  Calls Tryz.prog 190 #[s.val] w (Fresh w (encL s.nums)):=by
 have q:=hid (fun w=>right_any s w)
 rw [hr] at q
 have qb:=hid (fun w=>block_any s w hr)
 clear hr
 have hl:=encL_length s.nums
 have hblk:=heap_alloc_last w (.cells s.cells 123)
 have hc:=row8 hblk
 generalize encL s.nums=l at *
 obtain ⟨x0,x1,x2,x3,x4,x5,x6,x7⟩:=s
 simp only [Sup.val,Sup.cells] at *
 have hbW:Below w.heap.size w (w.alloc (.cells #[.int .i64 x0,.int .i64 x1,.int .i64 x2,.int .i64 x3,.int .i64 x4,.int .i64 x5,.int .i64 x6,.int .i64 x7] 123)):=(Below.refl _ _).alloc (Nat.le_refl _) _
 have hsW:(w.alloc (.cells #[.int .i64 x0,.int .i64 x1,.int .i64 x2,.int .i64 x3,.int .i64 x4,.int .i64 x5,.int .i64 x6,.int .i64 x7] 123)).heap.size=w.heap.size+1:=by simp
 obtain ⟨i1,ki,kz0,kz1,kz2⟩:=info_parts info_u8
 have HT:=hid hT
 have HW:=hid hW
 have HL:=hid hl
 have hblk:=hid hblk
 clear hT hW hl
 obtain ⟨c0,c1,c2,c3,c4,c5,c6,c7⟩:=hc
 go_enter Tryz.func190,Tryz.ntmps190
 go_wp2_with fail
 generalize w.alloc (.cells #[.int .i64 x0,.int .i64 x1,.int .i64 x2,.int .i64 x3,.int .i64 x4,.int .i64 x5,.int .i64 x6,.int .i64 x7] 123)=W at *
 generalize hgs:w.heap.size=g at *
 have Hgs:=hid hgs
 clear hgs
 refine (q.out _).mono ?_
 rintro e w1 ⟨rfl,hb1⟩
 clear c0 c1 c2 c3 c4 c5 c6 c7 q
 obtain ⟨c0,c1,c2,c3,c4,c5,c6,c7⟩:=row8 (s:=⟨x0,x1,x2,x3,x4,x5,x6,x7⟩) ((hb1.block g (by omega)).trans hblk.out)
 simp only at c0 c1 c2 c3 c4 c5 c6 c7
 have hbg1:=hbW.trans (hb1.mono (by omega))
 have hg1:g<w1.heap.size:=by have:=hb1.size;omega
 clear hbW hsW hblk hb1
 go_wp2_with fail
 refine (qb.out w1 (HT.out.below (by have:=HT.out.size;rw [<- Hgs.out];exact this) hbg1) (HW.out.below (by have:=HW.out.size;rw [<- Hgs.out];exact this) hbg1)).mono ?_
 rintro e w2 ⟨rfl,hb2⟩
 have hbg2:=hbg1.trans (hb2.mono (by omega))
 have hg2:g<w2.heap.size:=by have:=hb2.size;omega
 clear c0 c1 c2 c3 c4 c5 c6 c7 qb hb2 hbg1 hg1
 have hz0:=zero_block
 have hzn:=zcB_ne
 have hres:(w2.alloc (.cells zcB 263)).heap[w2.heap.size]?=some (.cells zcB 263 (0,0)):=heap_alloc_last _ _
 have hs128:(bts l).toArray.size=128:=by rw [List.size_toArray,bts_length,HL.out]
 have hi61:(Tryz.prog.info? 263).map (·.size)=some (bts l).toArray.size:=by rw [hs128];exact info_block
 have hone:(bts l).toArray.all (·.oneCell')=true:=Array.all_eq_true_iff_forall_mem.2 (fun v hv=>bts_one _ v (by simpa using hv))
 have hold:zcB.size=(bts l).toArray.size:=by rw [hs128,zcB_size]
 have hrow:=setRow_heap (w2.alloc (.cells zcB 263)) w2.heap.size _ (bts l).toArray 263 (0,0) hres
 have hb3:=below_setRow (g:=w2.heap.size) (hbg2.alloc (by omega) (.cells zcB 263)) (by omega) (bts l).toArray
 have hs3:w2.heap.size<((w2.alloc (.cells zcB 263)).setRow w2.heap.size (bts l).toArray).heap.size:=by simp [World.setRow]
 have hs4:((w2.alloc (.cells zcB 263)).setRow w2.heap.size (bts l).toArray).heap.size=w2.heap.size+1:=by simp [World.setRow]
 go_wp2_with (first
  | (with_reducible refine wpList_store_row rfl 263 (.tmp 4) (.tmp 10) rfl w2.heap.size _ rfl rfl 263 _ hres hi61 hold hone ?_)
  | (at_make;refine wpList_make_full _ rfl _ _ 24 rfl g 5 i1 _ 1 Tryz.underlying24 ki kz0 kz1 _ _ _ _ 128 rfl rfl rfl rfl (by rw [kz2];omega) (by unfold maxLen;omega) (Nat.le_trans (Nat.le_of_lt (Nat.lt_trans hg2 hs3)) (Nat.le_refl _)) ?_;intro w4 hown4 hgrow4;rw [hs4] at hown4))
 have hblk2:w4.heap[w2.heap.size]?=some (.cells (bts l).toArray 263 (0,0)):=(hgrow4.block _ hs3 (fun h=>by cases h)).trans hrow
 have hz4:=own_whole (zeros_own hown4)
 have hb4:=hb3.grown hgrow4 (by omega) (fun _ h=>by cases h)
 have hlt4:w2.heap.size<w4.heap.size:=Nat.lt_of_lt_of_le hs3 hgrow4.size
 have hrd:Reads w4 w4.heap.size (some ⟨w2.heap.size,0,none⟩) 128 (bts l):=reads_row hblk2 hlt4 HL.out
 obtain ⟨W5,hrun5,hblk5,hbel5⟩:=bytes_run w4 (w2.heap.size+1) 0 128 128 128 _ (some ⟨w2.heap.size,0,none⟩) l (List.replicate 128 0) 5 3 hz4 hrd (by decide) (by decide) (by decide)
 rw [splice_whole (by rw [bts_length,bts_length,HL.out];rfl)] at hblk5
 have hb5:=hbel5 g w (by omega) hb4
 rw [hrun5]
 have hfin:W5.ownsRow g 5 1 (.slice (some ⟨w2.heap.size+1,0,none⟩) 128 128) 128 (bts l):=own_of hblk5 (by omega) (by rw [bts_length,HL.out]) (by unfold maxLen;omega)
 clear hblk5 hbel5 hrd hz4 hown4 hgrow4 hb4 hb3 hrow hs3 hs4 hres hi61 hone hold hs128 hz0 hzn hblk2 hbg2
 generalize w2.heap.size+1=g4 at *
 go_wp2_with fail
 go_ret2
 exact ⟨g4,rfl,by rw [Hgs.out];exact hfin,by rw [Hgs.out];exact hb5⟩
theorem numAt_lt {l:List Nat} (hs:Small l) (j:Nat):numAt l j<2 ^ (8*widL.getD j 0):=cutAt_lt hs _ _
theorem cells_set {w:World} {b i:Nat} {c:Array Value} {t:TypeId} (v:Value) (h:w.heap[b]?=some (.cells c t (0,0))):(w.setCell ⟨b,i,none⟩ v).heap[b]?=some (.cells (c.setIfInBounds i v) t (0,0)):=heap_setCell_same w b i c t v h
theorem cells8_of {w:World} {g:Nat} {t:TypeId} {v0 v1 v2 v3 v4 v5 v6 v7:Value} (h:w.heap[g]?=some (.cells #[v0,v1,v2,v3,v4,v5,v6,v7] t (0,0))) :
    w.cell? ⟨g,0,none⟩=some v0/\w.cell? ⟨g,1,none⟩=some v1/\w.cell? ⟨g,2,none⟩=some v2/\w.cell? ⟨g,3,none⟩=some v3/\w.cell? ⟨g,4,none⟩=some v4/\w.cell? ⟨g,5,none⟩=some v5/\w.cell? ⟨g,6,none⟩=some v6/\w.cell? ⟨g,7,none⟩=some v7 /\
    w.frozen? ⟨g,0,none⟩=false/\w.frozen? ⟨g,1,none⟩=false/\w.frozen? ⟨g,2,none⟩=false/\w.frozen? ⟨g,3,none⟩=false/\w.frozen? ⟨g,4,none⟩=false/\w.frozen? ⟨g,5,none⟩=false/\w.frozen? ⟨g,6,none⟩=false/\w.frozen? ⟨g,7,none⟩=false :=
  ⟨cell_of_row _ _ 0 _ _ _ h,cell_of_row _ _ 1 _ _ _ h,cell_of_row _ _ 2 _ _ _ h,cell_of_row _ _ 3 _ _ _ h,cell_of_row _ _ 4 _ _ _ h,cell_of_row _ _ 5 _ _ _ h,cell_of_row _ _ 6 _ _ _ h,cell_of_row _ _ 7 _ _ _ h,
   frozen_of_row _ _ _ _ _ h,frozen_of_row _ _ _ _ _ h,frozen_of_row _ _ _ _ _ h,frozen_of_row _ _ _ _ _ h,frozen_of_row _ _ _ _ _ h,frozen_of_row _ _ _ _ _ h,frozen_of_row _ _ _ _ _ h,frozen_of_row _ _ _ _ _ h⟩
end Go.Proofs.YtcnjpmcelihknaaGreatDoor.S
