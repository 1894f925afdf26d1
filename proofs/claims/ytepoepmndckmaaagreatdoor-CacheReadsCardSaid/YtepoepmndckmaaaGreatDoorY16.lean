/-
  What the statement's proof rests on, part 16.
  Conditions: each theorem's own.
-/
import Derived.Test.YtepoepmndckmaaaGreatDoorY15
import Derived.Test.YtepoepmndckmaaaGreatDoorY06
import Derived.Test.YtepoepmndckmaaaGreatDoorY07
import Derived.Test.YtepoepmndckmaaaGreatDoorYtk
open Go.Lib (hid)
namespace Go.Proofs.YtepoepmndckmaaaGreatDoor.S
open Go.RowKit
set_option maxRecDepth 100000 in
set_option maxHeartbeats 4000000 in
theorem right_no7 (s:Sup) (w:World) (h1:(1<=s.gen/\s.gen<=4611686018427387904)) (h2:(3<=s.mem/\s.mem<=16)) (h3:(0<=s.disk/\s.disk<=s.mem)) (h4:(1<=s.str/\s.str<=1024)) (h5:(1<=s.logs/\s.logs<=8)) (h6:(-1<=s.spare/\s.spare<=s.mem-1)) (h7:¬(0<=s.mark/\s.mark<=s.most)) :
  Calls Tryz.prog 133 #[s.val] w fun e w'=>e=.returned (.bool false)/\Below w.heap.size w w':=by
 have hm:=hid (fun w=>mostMark_any s w)
 have Q:=hid within_yes
 have QF:=hid within_not
 have w1:IntKind.i64.wrap (s.mem-1)=s.mem-1:=by rw [IntKind.wrap_i64];omega
 have hblk:=heap_alloc_last w (.cells s.cells 81)
 have hK:=row8 hblk
 clear hblk
 obtain ⟨x0,x1,x2,x3,x4,x5,x6,x7⟩:=s
 simp only [Sup.val,Sup.cells] at *
 go_enter Tryz.func133,Tryz.ntmps133
 have hbW:Below w.heap.size w (w.alloc (.cells #[.int .i64 x0,.int .i64 x1,.int .i64 x2,.int .i64 x3,.int .i64 x4,.int .i64 x5,.int .i64 x6,.int .i64 x7] 81)):=(Below.refl _ _).alloc (Nat.le_refl _) _
 have hgW:w.heap.size<(w.alloc (.cells #[.int .i64 x0,.int .i64 x1,.int .i64 x2,.int .i64 x3,.int .i64 x4,.int .i64 x5,.int .i64 x6,.int .i64 x7] 81)).heap.size:=by simp
 generalize Sup.most ⟨x0,x1,x2,x3,x4,x5,x6,x7⟩=mm at *
 go_wp2_with fail
 generalize w.alloc (.cells #[.int .i64 x0,.int .i64 x1,.int .i64 x2,.int .i64 x3,.int .i64 x4,.int .i64 x5,.int .i64 x6,.int .i64 x7] 81)=W at *
 generalize hgs:w.heap.size=g at *
 have Hgs:=hid hgs
 clear hgs
 have hk:∀i W',Below W.heap.size W W'->W'.cell? ⟨g,i,none⟩=W.cell? ⟨g,i,none⟩:=fun i W' hb=>hb.cell (p:=⟨g,i,none⟩) hgW
 have k0:=fun W' (h:Below W.heap.size W W')=>(hk 0 W' h).trans hK.1
 have k1:=fun W' (h:Below W.heap.size W W')=>(hk 1 W' h).trans hK.2.1
 have k2:=fun W' (h:Below W.heap.size W W')=>(hk 2 W' h).trans hK.2.2.1
 have k3:=fun W' (h:Below W.heap.size W W')=>(hk 3 W' h).trans hK.2.2.2.1
 have k4:=fun W' (h:Below W.heap.size W W')=>(hk 4 W' h).trans hK.2.2.2.2.1
 have k5:=fun W' (h:Below W.heap.size W W')=>(hk 5 W' h).trans hK.2.2.2.2.2.1
 have k6:=fun W' (h:Below W.heap.size W W')=>(hk 6 W' h).trans hK.2.2.2.2.2.2.1
 have k7:=fun W' (h:Below W.heap.size W W')=>(hk 7 W' h).trans hK.2.2.2.2.2.2.2
 clear hk hK
 have HbW:=hid (hbW.mono (Nat.le_refl g))
 have hgW2:=hid (Nat.le_of_lt hgW)
 clear hbW hgW
 refine wp_region_held_drew (S:=fun W'=>Below W.heap.size W W') (by kernel_rfl) ((Below.refl _ _).drew) (fun hHeld=>?_)
 refine tk 0 3 ?_
 refine tk 1 4 ?_
 refine r1 2 (some 5) fun K hK=>?_
 go_simp
 refine (Q.out _ _ _ h1 _).mono ?_
 rintro e w9 ⟨rfl,rfl⟩
 refine hK.out _ _ (hHeld) (fun hHeld=>?_)
 clear hK K
 try simp only [Act.put,List.setIfInBounds_toArray,List.set_cons_zero,List.set_cons_succ]
 refine tk 3 6 ?_
 refine tk 4 7 ?_
 refine tk 5 8 ?_
 refine r1 6 (some 9) fun K hK=>?_
 go_simp
 refine (Q.out _ _ _ h2 _).mono ?_
 rintro e w9 ⟨rfl,rfl⟩
 refine hK.out _ _ (hHeld) (fun hHeld=>?_)
 clear hK K
 try simp only [Act.put,List.setIfInBounds_toArray,List.set_cons_zero,List.set_cons_succ]
 refine tk 7 10 ?_
 refine tk 8 11 ?_
 refine tk 9 12 ?_
 refine tk 10 13 ?_
 refine tk 11 14 ?_
 refine tk 12 15 ?_
 refine r1 13 (some 16) fun K hK=>?_
 go_simp
 refine (Q.out _ _ _ h3 _).mono ?_
 rintro e w9 ⟨rfl,rfl⟩
 refine hK.out _ _ (hHeld) (fun hHeld=>?_)
 clear hK K
 try simp only [Act.put,List.setIfInBounds_toArray,List.set_cons_zero,List.set_cons_succ]
 refine tk 14 17 ?_
 refine tk 15 18 ?_
 refine tk 16 19 ?_
 refine tk 17 20 ?_
 refine r1 18 (some 21) fun K hK=>?_
 go_simp
 refine (Q.out _ _ _ h4 _).mono ?_
 rintro e w9 ⟨rfl,rfl⟩
 refine hK.out _ _ (hHeld) (fun hHeld=>?_)
 clear hK K
 try simp only [Act.put,List.setIfInBounds_toArray,List.set_cons_zero,List.set_cons_succ]
 refine tk 19 22 ?_
 refine tk 20 23 ?_
 refine tk 21 24 ?_
 refine tk 22 25 ?_
 refine r1 23 (some 26) fun K hK=>?_
 go_simp
 refine (Q.out _ _ _ h5 _).mono ?_
 rintro e w9 ⟨rfl,rfl⟩
 refine hK.out _ _ (hHeld) (fun hHeld=>?_)
 clear hK K
 try simp only [Act.put,List.setIfInBounds_toArray,List.set_cons_zero,List.set_cons_succ]
 refine tk 24 27 ?_
 refine tk 25 28 ?_
 refine tk 26 29 ?_
 refine tk 27 30 ?_
 refine tk 28 31 ?_
 refine tk 29 32 ?_
 refine tk 30 33 ?_
 refine r1 31 (some 34) fun K hK=>?_
 go_simp
 refine (Q.out _ _ _ h6 _).mono ?_
 rintro e w9 ⟨rfl,rfl⟩
 refine hK.out _ _ (hHeld) (fun hHeld=>?_)
 clear hK K
 try simp only [Act.put,List.setIfInBounds_toArray,List.set_cons_zero,List.set_cons_succ]
 refine tk 32 35 ?_
 refine tk 33 36 ?_
 refine tk 34 37 ?_
 refine tk 35 38 ?_
 refine tk 36 39 ?_
 refine r1 37 (some 40) fun K hK=>?_
 go_simp
 refine (hm.out _).mono ?_
 rintro e w9 ⟨rfl,hb9⟩
 refine hK.out _ _ (below_on hHeld hb9) (fun hHeld=>?_)
 clear hK K
 try simp only [Act.put,List.setIfInBounds_toArray,List.set_cons_zero,List.set_cons_succ]
 refine r1 38 (some 41) fun K hK=>?_
 go_simp
 refine (QF.out _ _ _ h7 _).mono ?_
 rintro e w10 ⟨rfl,rfl⟩
 refine hK.out _ _ (hHeld) (fun hHeld=>?_)
 clear hK K
 try simp only [Act.put,List.setIfInBounds_toArray,List.set_cons_zero,List.set_cons_succ]
 refine tk 39 42 ?_
 refine tk 40 43 ?_
 refine tu 41 44 ?_
 refine tu 42 45 ?_
 refine tu 43 46 ?_
 refine tu 44 47 ?_
 refine tu 45 48 ?_
 refine tu 46 49 ?_
 refine tk 47 50 ?_
 refine tk 48 2 ?_
 refine wpAnyH_done (by kernel_rfl) ?_ _
 go_wp2
 go_ret
 exact ⟨rfl,by rw [Hgs.out];exact HbW.out.trans (hHeld.mono hgW2.out)⟩
theorem right_any (s:Sup) (w:World) :
  Calls Tryz.prog 133 #[s.val] w fun e w'=>e=.returned (.bool s.right)/\Below w.heap.size w w':=by
 unfold Sup.right
 by_cases h1:(1<=s.gen/\s.gen<=4611686018427387904)
 ·by_cases h2:(3<=s.mem/\s.mem<=16)
  ·by_cases h3:(0<=s.disk/\s.disk<=s.mem)
   ·by_cases h4:(1<=s.str/\s.str<=1024)
    ·by_cases h5:(1<=s.logs/\s.logs<=8)
     ·by_cases h6:(-1<=s.spare/\s.spare<=s.mem-1)
      ·by_cases h7:(0<=s.mark/\s.mark<=s.most)
       ·by_cases h8:(0<=s.cur/\s.cur<=s.str-1)
        ·rw [decide_eq_true h1,decide_eq_true h2,decide_eq_true h3,decide_eq_true h4,decide_eq_true h5,decide_eq_true h6,decide_eq_true h7,decide_eq_true h8]
         exact right_yes s w h1 h2 h3 h4 h5 h6 h7 h8
        ·rw [decide_eq_true h1,decide_eq_true h2,decide_eq_true h3,decide_eq_true h4,decide_eq_true h5,decide_eq_true h6,decide_eq_true h7,decide_eq_false h8]
         exact right_no8 s w h1 h2 h3 h4 h5 h6 h7 h8
       ·rw [decide_eq_true h1,decide_eq_true h2,decide_eq_true h3,decide_eq_true h4,decide_eq_true h5,decide_eq_true h6,decide_eq_false h7]
        exact right_no7 s w h1 h2 h3 h4 h5 h6 h7
      ·rw [decide_eq_true h1,decide_eq_true h2,decide_eq_true h3,decide_eq_true h4,decide_eq_true h5,decide_eq_false h6]
       exact right_no6 s w h1 h2 h3 h4 h5 h6
     ·rw [decide_eq_true h1,decide_eq_true h2,decide_eq_true h3,decide_eq_true h4,decide_eq_false h5]
      exact right_no5 s w h1 h2 h3 h4 h5
    ·rw [decide_eq_true h1,decide_eq_true h2,decide_eq_true h3,decide_eq_false h4]
     exact right_no4 s w h1 h2 h3 h4
   ·rw [decide_eq_true h1,decide_eq_true h2,decide_eq_false h3]
    exact right_no3 s w h1 h2 h3
  ·rw [decide_eq_true h1,decide_eq_false h2]
   exact right_no2 s w h1 h2
 ·rw [decide_eq_false h1]
  exact right_no1 s w h1
theorem own_whole {w:World} {base:Nat} {e:TypeId} {n g:Nat} {xs:List Value} (h:w.ownsRow base e 1 (.slice (some ⟨g,0,none⟩) n n) n xs):w.heap[g]?=some (.cells xs.toArray e (0,0)):=by
 rcases h.2 with ⟨h0,_⟩ | ⟨g',cap,cur,hv,_,hh,_,_,hs,ht⟩
 ·cases h0
 ·injection hv with h1 _ h3
  injection h1 with h1
  injection h1 with h1
  subst h1 h3
  rw [hh]
  have e2:cur.toList=xs:=by
   rw [<- ht,List.take_of_length_le (by simp [hs])]
  rw [<- e2]
theorem own_of {w:World} {base:Nat} {e:TypeId} {n g:Nat} {xs:List Value} (h:w.heap[g]?=some (.cells xs.toArray e (0,0))) (hb:base<=g) (hn:xs.length=n) (hm:n<=maxLen):w.ownsRow base e 1 (.slice (some ⟨g,0,none⟩) n n) n xs :=
 ⟨by omega,.inr ⟨g,n,xs.toArray,rfl,hb,h,Nat.le_refl _,hm,by simp [hn],by rw [Nat.mul_one,<- hn];exact List.take_length⟩⟩
theorem zeros_own {w:World} {base g:Nat} (h:w.ownsRow base 5 1 (.slice (some ⟨g,0,none⟩) 128 128) 128 (madeCells (Value.int .u8 0).cells (128*1)).toList):w.ownsRow base 5 1 (.slice (some ⟨g,0,none⟩) 128 128) 128 (bts (List.replicate 128 0)):=by
 have e:(madeCells (Value.int .u8 0).cells (128*1)).toList=bts (List.replicate 128 0):=(toList_madeCells_one _ _).trans (by simp [bts])
 rw [e] at h
 exact h
theorem reads_row {w:World} {g:Nat} {l:List Nat} {e:TypeId} (h:w.heap[g]?=some (.cells (bts l).toArray e (0,0))) (hg:g<w.heap.size) (hl:l.length=128):Reads w w.heap.size (some ⟨g,0,none⟩) 128 (bts l):=by
 refine ⟨by rw [bts_length,hl],fun _=>⟨_,rfl,hg,fun j u hu=>?_⟩⟩
 have hadd:(⟨g,0,none⟩:Addr).add j=⟨g,j,none⟩:=by unfold Addr.add;split<;>simp_all
 rw [hadd,cell_of_row _ _ j _ _ _ h,List.getElem?_toArray];exact hu
theorem splice_whole {α:Type} {cur cs:List α} (h:cs.length=cur.length):splice cur 0 cs=cs:=by
 unfold splice
 rw [Nat.zero_add,List.drop_eq_nil_of_le (by omega)]
 simp
def Fresh (w:World) (l:List Nat) (e:Ending) (w':World):Prop :=
 ∃g,e=.returned (.tuple #[.slice (some ⟨g,0,none⟩) 128 128,.int .i64 0])/\w'.ownsRow w.heap.size 5 1 (.slice (some ⟨g,0,none⟩) 128 128) 128 (bts l)/\Below w.heap.size w w'
set_option maxRecDepth 100000 in
set_option maxHeartbeats 4000000 in
theorem encode_ok (s:Sup) (w:World) (hr:s.right=true) (hT:Tabs w) (hW:Wid w) :
  Calls Tryz.prog 124 #[s.val] w (Fresh w (encL s.nums)):=by
 have q:=hid (fun w=>right_any s w)
 rw [hr] at q
 have qb:=hid (fun w=>block_any s w hr)
 clear hr
 have hl:=encL_length s.nums
 have hblk:=heap_alloc_last w (.cells s.cells 81)
 have hc:=row8 hblk
 generalize encL s.nums=l at *
 obtain ⟨x0,x1,x2,x3,x4,x5,x6,x7⟩:=s
 simp only [Sup.val,Sup.cells] at *
 have hbW:Below w.heap.size w (w.alloc (.cells #[.int .i64 x0,.int .i64 x1,.int .i64 x2,.int .i64 x3,.int .i64 x4,.int .i64 x5,.int .i64 x6,.int .i64 x7] 81)):=(Below.refl _ _).alloc (Nat.le_refl _) _
 have hsW:(w.alloc (.cells #[.int .i64 x0,.int .i64 x1,.int .i64 x2,.int .i64 x3,.int .i64 x4,.int .i64 x5,.int .i64 x6,.int .i64 x7] 81)).heap.size=w.heap.size+1:=by simp
 obtain ⟨i1,ki,kz0,kz1,kz2⟩:=info_parts info_u8
 have HT:=hid hT
 have HW:=hid hW
 have HL:=hid hl
 have hblk:=hid hblk
 clear hT hW hl
 obtain ⟨c0,c1,c2,c3,c4,c5,c6,c7⟩:=hc
 go_enter Tryz.func124,Tryz.ntmps124
 go_wp2_with fail
 generalize w.alloc (.cells #[.int .i64 x0,.int .i64 x1,.int .i64 x2,.int .i64 x3,.int .i64 x4,.int .i64 x5,.int .i64 x6,.int .i64 x7] 81)=W at *
 generalize hgs:w.heap.size=g at *
 have Hgs:=hid hgs
 clear hgs
 refine (q.out _).mono ?_
 rintro e w1 ⟨rfl,hb1⟩
 clear c0 c1 c2 c3 c4 c5 c6 c7 q
 obtain ⟨c0,c1,c2,c3,c4,c5,c6,c7⟩:=row8 (s:=⟨x0,x1,x2,x3,x4,x5,x6,x7⟩) ((hb1.block g (by omega)).trans hblk.out)
 simp only at c0 c1 c2 c3 c4 c5 c6 c7
 have hbg1:=hbW.trans (hb1.mono (by omega))
 have hg1:g<w1.heap.size:=by have:=hb1.size;omega
 clear hbW hsW hblk hb1
 go_wp2_with fail
 refine (qb.out w1 (HT.out.below (by have:=HT.out.size;rw [<- Hgs.out];exact this) hbg1) (HW.out.below (by have:=HW.out.size;rw [<- Hgs.out];exact this) hbg1)).mono ?_
 rintro e w2 ⟨rfl,hb2⟩
 have hbg2:=hbg1.trans (hb2.mono (by omega))
 have hg2:g<w2.heap.size:=by have:=hb2.size;omega
 clear c0 c1 c2 c3 c4 c5 c6 c7 qb hb2 hbg1 hg1
 have hz0:=zero_block
 have hzn:=zcB_ne
 have hres:(w2.alloc (.cells zcB 220)).heap[w2.heap.size]?=some (.cells zcB 220 (0,0)):=heap_alloc_last _ _
 have hs128:(bts l).toArray.size=128:=by rw [List.size_toArray,bts_length,HL.out]
 have hi61:(Tryz.prog.info? 220).map (·.size)=some (bts l).toArray.size:=by rw [hs128];exact info_block
 have hone:(bts l).toArray.all (·.oneCell')=true:=Array.all_eq_true_iff_forall_mem.2 (fun v hv=>bts_one _ v (by simpa using hv))
 have hold:zcB.size=(bts l).toArray.size:=by rw [hs128,zcB_size]
 have hrow:=setRow_heap (w2.alloc (.cells zcB 220)) w2.heap.size _ (bts l).toArray 220 (0,0) hres
 have hb3:=below_setRow (g:=w2.heap.size) (hbg2.alloc (by omega) (.cells zcB 220)) (by omega) (bts l).toArray
 have hs3:w2.heap.size<((w2.alloc (.cells zcB 220)).setRow w2.heap.size (bts l).toArray).heap.size:=by simp [World.setRow]
 have hs4:((w2.alloc (.cells zcB 220)).setRow w2.heap.size (bts l).toArray).heap.size=w2.heap.size+1:=by simp [World.setRow]
 go_wp2_with (first
  | (with_reducible refine wpList_store_row rfl 220 (.tmp 4) (.tmp 10) rfl w2.heap.size _ rfl rfl 220 _ hres hi61 hold hone ?_)
  | (at_make;refine wpList_make_full _ rfl _ _ 40 rfl g 5 i1 _ 1 Tryz.underlying40 ki kz0 kz1 _ _ _ _ 128 rfl rfl rfl rfl (by rw [kz2];omega) (by unfold maxLen;omega) (Nat.le_trans (Nat.le_of_lt (Nat.lt_trans hg2 hs3)) (Nat.le_refl _)) ?_;intro w4 hown4 hgrow4;rw [hs4] at hown4))
 have hblk2:w4.heap[w2.heap.size]?=some (.cells (bts l).toArray 220 (0,0)):=(hgrow4.block _ hs3 (fun h=>by cases h)).trans hrow
 have hz4:=own_whole (zeros_own hown4)
 have hb4:=hb3.grown hgrow4 (by omega) (fun _ h=>by cases h)
 have hlt4:w2.heap.size<w4.heap.size:=Nat.lt_of_lt_of_le hs3 hgrow4.size
 have hrd:Reads w4 w4.heap.size (some ⟨w2.heap.size,0,none⟩) 128 (bts l):=reads_row hblk2 hlt4 HL.out
 obtain ⟨W5,hrun5,hblk5,hbel5⟩:=bytes_run w4 (w2.heap.size+1) 0 128 128 128 _ (some ⟨w2.heap.size,0,none⟩) l (List.replicate 128 0) 5 3 hz4 hrd (by decide) (by decide) (by decide)
 rw [splice_whole (by rw [bts_length,bts_length,HL.out];rfl)] at hblk5
 have hb5:=hbel5 g w (by omega) hb4
 rw [hrun5]
 have hfin:W5.ownsRow g 5 1 (.slice (some ⟨w2.heap.size+1,0,none⟩) 128 128) 128 (bts l):=own_of hblk5 (by omega) (by rw [bts_length,HL.out]) (by unfold maxLen;omega)
 clear hblk5 hbel5 hrd hz4 hown4 hgrow4 hb4 hb3 hrow hs3 hs4 hres hi61 hone hold hs128 hz0 hzn hblk2 hbg2
 generalize w2.heap.size+1=g4 at *
 go_wp2_with fail
 go_ret2
 exact ⟨g4,rfl,by rw [Hgs.out];exact hfin,by rw [Hgs.out];exact hb5⟩
def rowZ (l:List Nat) (j:Nat):List Value:=(List.range 8).map fun i=>Value.int .i64 (if i<j then wrap64 ((numAt l i:Nat):Int) else 0)
theorem rowZ_len (l:List Nat) (j:Nat):(rowZ l j).length=8:=by simp [rowZ]
theorem rowZ_at (l:List Nat) (j i:Nat) (h:i<8):(rowZ l j)[i]?=some (.int .i64 (if i<j then wrap64 ((numAt l i:Nat):Int) else 0)):=by
 simp [rowZ,h]
theorem rowZ_set (l:List Nat) (j:Nat):(rowZ l j).toArray.setIfInBounds j (.int .i64 (wrap64 ((numAt l j:Nat):Int)))=(rowZ l (j+1)).toArray:=by
 rw [List.setIfInBounds_toArray]
 congr 1
 apply List.ext_getElem?
 intro i
 rw [List.getElem?_set]
 by_cases h:i<8
 ·by_cases e:j=i
  ·subst e
   rw [if_pos rfl,if_pos (by rw [rowZ_len];exact h),rowZ_at l _ j h,if_pos (by omega)]
  ·rw [if_neg e,rowZ_at l _ i h,rowZ_at l _ i h]
   by_cases h2:i<j
   ·rw [if_pos h2,if_pos (by omega)]
   ·rw [if_neg h2,if_neg (by omega)]
 ·by_cases e:j=i
  ·subst e
   rw [if_pos rfl,if_neg (by rw [rowZ_len];exact h),List.getElem?_eq_none (by rw [rowZ_len];omega)]
  ·rw [if_neg e,List.getElem?_eq_none (by rw [rowZ_len];omega),List.getElem?_eq_none (by rw [rowZ_len];omega)]
theorem wid_off:∀j:Fin 8,1<=widL.getD j.val 0/\widL.getD j.val 0<=8/\offL.getD j.val 0+widL.getD j.val 0=offL.getD (j.val+1) 0/\offL.getD j.val 0<=24:=by decide
theorem numAt_lt {l:List Nat} (hs:Small l) (j:Nat):numAt l j<2 ^ (8*widL.getD j 0):=cutAt_lt hs _ _
theorem cells_set {w:World} {b i:Nat} {c:Array Value} {t:TypeId} (v:Value) (h:w.heap[b]?=some (.cells c t (0,0))):(w.setCell ⟨b,i,none⟩ v).heap[b]?=some (.cells (c.setIfInBounds i v) t (0,0)):=heap_setCell_same w b i c t v h
theorem info_sup:(Tryz.prog.info? 81).map (·.size)=some 8:=by kernel_rfl
theorem i8_in (n:Int):-9223372036854775808<=IntKind.i8.wrap n/\IntKind.i8.wrap n<=9223372036854775807:=by
 simp [IntKind.wrap,IntKind.bits,IntKind.signed]
 omega
noncomputable def put8 (w:World) (g:Nat) (a0 a1 a2 a3 a4 a5 a6 a7:Value):World :=
 (((((((w.setCell ⟨g,0,none⟩ a0).setCell ⟨g,1,none⟩ a1).setCell ⟨g,2,none⟩ a2).setCell ⟨g,3,none⟩ a3).setCell ⟨g,4,none⟩ a4).setCell ⟨g,5,none⟩ a5).setCell ⟨g,6,none⟩ a6).setCell ⟨g,7,none⟩ a7
theorem put8_row {w:World} {g:Nat} {t:TypeId} {v0 v1 v2 v3 v4 v5 v6 v7:Value} (h:w.heap[g]?=some (.cells #[v0,v1,v2,v3,v4,v5,v6,v7] t (0,0))) (a0 a1 a2 a3 a4 a5 a6 a7:Value) :
  (put8 w g a0 a1 a2 a3 a4 a5 a6 a7).heap[g]?=some (.cells #[a0,a1,a2,a3,a4,a5,a6,a7] t (0,0)):=by
 have h0:(w.setCell ⟨g,0,none⟩ a0).heap[g]?=some (.cells #[a0,v1,v2,v3,v4,v5,v6,v7] t (0,0)):=cells_set (i:=0) a0 h
 have h1:((w.setCell ⟨g,0,none⟩ a0).setCell ⟨g,1,none⟩ a1).heap[g]?=some (.cells #[a0,a1,v2,v3,v4,v5,v6,v7] t (0,0)):=cells_set (i:=1) a1 h0
 clear h0
 have h2:(((w.setCell ⟨g,0,none⟩ a0).setCell ⟨g,1,none⟩ a1).setCell ⟨g,2,none⟩ a2).heap[g]?=some (.cells #[a0,a1,a2,v3,v4,v5,v6,v7] t (0,0)):=cells_set (i:=2) a2 h1
 clear h1
 have h3:((((w.setCell ⟨g,0,none⟩ a0).setCell ⟨g,1,none⟩ a1).setCell ⟨g,2,none⟩ a2).setCell ⟨g,3,none⟩ a3).heap[g]?=some (.cells #[a0,a1,a2,a3,v4,v5,v6,v7] t (0,0)):=cells_set (i:=3) a3 h2
 clear h2
 have h4:(((((w.setCell ⟨g,0,none⟩ a0).setCell ⟨g,1,none⟩ a1).setCell ⟨g,2,none⟩ a2).setCell ⟨g,3,none⟩ a3).setCell ⟨g,4,none⟩ a4).heap[g]?=some (.cells #[a0,a1,a2,a3,a4,v5,v6,v7] t (0,0)):=cells_set (i:=4) a4 h3
 clear h3
 have h5:((((((w.setCell ⟨g,0,none⟩ a0).setCell ⟨g,1,none⟩ a1).setCell ⟨g,2,none⟩ a2).setCell ⟨g,3,none⟩ a3).setCell ⟨g,4,none⟩ a4).setCell ⟨g,5,none⟩ a5).heap[g]?=some (.cells #[a0,a1,a2,a3,a4,a5,v6,v7] t (0,0)):=cells_set (i:=5) a5 h4
 clear h4
 have h6:(((((((w.setCell ⟨g,0,none⟩ a0).setCell ⟨g,1,none⟩ a1).setCell ⟨g,2,none⟩ a2).setCell ⟨g,3,none⟩ a3).setCell ⟨g,4,none⟩ a4).setCell ⟨g,5,none⟩ a5).setCell ⟨g,6,none⟩ a6).heap[g]?=some (.cells #[a0,a1,a2,a3,a4,a5,a6,v7] t (0,0)):=cells_set (i:=6) a6 h5
 clear h5
 have h7:((((((((w.setCell ⟨g,0,none⟩ a0).setCell ⟨g,1,none⟩ a1).setCell ⟨g,2,none⟩ a2).setCell ⟨g,3,none⟩ a3).setCell ⟨g,4,none⟩ a4).setCell ⟨g,5,none⟩ a5).setCell ⟨g,6,none⟩ a6).setCell ⟨g,7,none⟩ a7).heap[g]?=some (.cells #[a0,a1,a2,a3,a4,a5,a6,a7] t (0,0)):=cells_set (i:=7) a7 h6
 clear h6
 exact h7
theorem put8_below {B:Nat} {w0 w:World} {g:Nat} (h:Below B w0 w) (hg:B<=g) (a0 a1 a2 a3 a4 a5 a6 a7:Value):Below B w0 (put8 w g a0 a1 a2 a3 a4 a5 a6 a7) :=
 (((((((h.setCell (p:=⟨g,0,none⟩) hg a0).setCell (p:=⟨g,1,none⟩) hg a1).setCell (p:=⟨g,2,none⟩) hg a2).setCell (p:=⟨g,3,none⟩) hg a3).setCell (p:=⟨g,4,none⟩) hg a4).setCell (p:=⟨g,5,none⟩) hg a5).setCell (p:=⟨g,6,none⟩) hg a6).setCell (p:=⟨g,7,none⟩) hg a7
theorem cells8_of {w:World} {g:Nat} {t:TypeId} {v0 v1 v2 v3 v4 v5 v6 v7:Value} (h:w.heap[g]?=some (.cells #[v0,v1,v2,v3,v4,v5,v6,v7] t (0,0))) :
    w.cell? ⟨g,0,none⟩=some v0/\w.cell? ⟨g,1,none⟩=some v1/\w.cell? ⟨g,2,none⟩=some v2/\w.cell? ⟨g,3,none⟩=some v3/\w.cell? ⟨g,4,none⟩=some v4/\w.cell? ⟨g,5,none⟩=some v5/\w.cell? ⟨g,6,none⟩=some v6/\w.cell? ⟨g,7,none⟩=some v7 /\
    w.frozen? ⟨g,0,none⟩=false/\w.frozen? ⟨g,1,none⟩=false/\w.frozen? ⟨g,2,none⟩=false/\w.frozen? ⟨g,3,none⟩=false/\w.frozen? ⟨g,4,none⟩=false/\w.frozen? ⟨g,5,none⟩=false/\w.frozen? ⟨g,6,none⟩=false/\w.frozen? ⟨g,7,none⟩=false :=
  ⟨cell_of_row _ _ 0 _ _ _ h,cell_of_row _ _ 1 _ _ _ h,cell_of_row _ _ 2 _ _ _ h,cell_of_row _ _ 3 _ _ _ h,cell_of_row _ _ 4 _ _ _ h,cell_of_row _ _ 5 _ _ _ h,cell_of_row _ _ 6 _ _ _ h,cell_of_row _ _ 7 _ _ _ h,
   frozen_of_row _ _ _ _ _ h,frozen_of_row _ _ _ _ _ h,frozen_of_row _ _ _ _ _ h,frozen_of_row _ _ _ _ _ h,frozen_of_row _ _ _ _ _ h,frozen_of_row _ _ _ _ _ h,frozen_of_row _ _ _ _ _ h,frozen_of_row _ _ _ _ _ h⟩
theorem store0 {w:World} {g:Nat} {t:TypeId} {v0 v1 v2 v3 v4 v5 v6 v7:Value} (h:w.heap[g]?=some (.cells #[v0,v1,v2,v3,v4,v5,v6,v7] t (0,0))) (a:Value) (ha:a.oneCell'=true) :
  (store ⟨g,0,none⟩ a).run Tryz.prog w=.ok () (w.setCell ⟨g,0,none⟩ a):=by
 have k0:w.cell? ⟨g,0,none⟩=some v0:=cell_of_row _ _ 0 _ _ _ h
 have f0:w.frozen? ⟨g,0,none⟩=false:=frozen_of_row _ _ _ _ _ h
 rw [run_store _ _ _ _ _ ha,k0]
 simp only [f0]
 rfl
theorem zero_rowZ (l:List Nat):(rowZ l 0).toArray=#[.int .i64 0,.int .i64 0,.int .i64 0,.int .i64 0,.int .i64 0,.int .i64 0,.int .i64 0,.int .i64 0]:=by
 simp [rowZ,List.range,List.range.loop]
set_option maxRecDepth 100000 in
set_option maxHeartbeats 4000000 in
theorem numbers_any (l:List Nat) (hl:l.length=128) (hs:Small l) (w:World) (hW:Wid w) :
  Calls Tryz.prog 168 #[.agg (bts l).toArray] w fun e w'=>e=.returned (supOf l).val/\Below w.heap.size w w':=by
 have hi61:(Tryz.prog.info? 220).map (·.size)=some (bts l).toArray.size:=by rw [List.size_toArray,bts_length,hl];exact info_block
 have hblk:=heap_alloc_last w (.cells (bts l).toArray 220)
 have HS:=hid hs
 have HL:=hid hl
 have HW:=hid hW
 clear hs hl hW
 have hb0:Below w.heap.size w (((w.alloc (.cells (bts l).toArray 220)).alloc (.cells #[.int .i64 0,.int .i64 0,.int .i64 0,.int .i64 0,.int .i64 0,.int .i64 0,.int .i64 0,.int .i64 0] 81)).alloc (.cells #[.int .i64 0,.int .i64 0,.int .i64 0,.int .i64 0,.int .i64 0,.int .i64 0,.int .i64 0,.int .i64 0] 249)) :=
  (((Below.refl _ _).alloc (Nat.le_refl _) _).alloc (by simp) _).alloc (by simp;omega) _
 have hs0:(((w.alloc (.cells (bts l).toArray 220)).alloc (.cells #[.int .i64 0,.int .i64 0,.int .i64 0,.int .i64 0,.int .i64 0,.int .i64 0,.int .i64 0,.int .i64 0] 81)).alloc (.cells #[.int .i64 0,.int .i64 0,.int .i64 0,.int .i64 0,.int .i64 0,.int .i64 0,.int .i64 0,.int .i64 0] 249)).heap.size=w.heap.size+1+1+1:=by simp
 have hs2:((w.alloc (.cells (bts l).toArray 220)).alloc (.cells #[.int .i64 0,.int .i64 0,.int .i64 0,.int .i64 0,.int .i64 0,.int .i64 0,.int .i64 0,.int .i64 0] 81)).heap.size=w.heap.size+1+1:=by simp
 have hs1:(w.alloc (.cells (bts l).toArray 220)).heap.size=w.heap.size+1:=by simp
 have h2:(((w.alloc (.cells (bts l).toArray 220)).alloc (.cells #[.int .i64 0,.int .i64 0,.int .i64 0,.int .i64 0,.int .i64 0,.int .i64 0,.int .i64 0,.int .i64 0] 81)).alloc (.cells #[.int .i64 0,.int .i64 0,.int .i64 0,.int .i64 0,.int .i64 0,.int .i64 0,.int .i64 0,.int .i64 0] 249)).heap[w.heap.size+1+1]?=some (.cells (rowZ l 0).toArray 249 (0,0)):=by
  rw [zero_rowZ,<- hs2];exact heap_alloc_last _ _
 have h1:(((w.alloc (.cells (bts l).toArray 220)).alloc (.cells #[.int .i64 0,.int .i64 0,.int .i64 0,.int .i64 0,.int .i64 0,.int .i64 0,.int .i64 0,.int .i64 0] 81)).alloc (.cells #[.int .i64 0,.int .i64 0,.int .i64 0,.int .i64 0,.int .i64 0,.int .i64 0,.int .i64 0,.int .i64 0] 249)).heap[w.heap.size+1]?=some (.cells #[.int .i64 0,.int .i64 0,.int .i64 0,.int .i64 0,.int .i64 0,.int .i64 0,.int .i64 0,.int .i64 0] 81 (0,0)):=by
  rw [Below.heap_alloc _ _ _ (by rw [hs2];omega),<- hs1];exact heap_alloc_last _ _
 have h0:(((w.alloc (.cells (bts l).toArray 220)).alloc (.cells #[.int .i64 0,.int .i64 0,.int .i64 0,.int .i64 0,.int .i64 0,.int .i64 0,.int .i64 0,.int .i64 0] 81)).alloc (.cells #[.int .i64 0,.int .i64 0,.int .i64 0,.int .i64 0,.int .i64 0,.int .i64 0,.int .i64 0,.int .i64 0] 249)).heap[w.heap.size]?=some (.cells (bts l).toArray 220 (0,0)):=by
  rw [Below.heap_alloc _ _ _ (by rw [hs2];omega),Below.heap_alloc _ _ _ (by rw [hs1];omega)];exact hblk
 clear hblk hs1 hs2
 go_enter Tryz.func168,Tryz.ntmps168
 go_wp2_with fail
 generalize (((w.alloc (.cells (bts l).toArray 220)).alloc (.cells #[.int .i64 0,.int .i64 0,.int .i64 0,.int .i64 0,.int .i64 0,.int .i64 0,.int .i64 0,.int .i64 0] 81)).alloc (.cells #[.int .i64 0,.int .i64 0,.int .i64 0,.int .i64 0,.int .i64 0,.int .i64 0,.int .i64 0,.int .i64 0] 249))=W1 at *
 generalize hgs:w.heap.size=g at *
 have Hgs:=hid hgs
 clear hgs
 have H0:=hid h0
 have H1:=hid h1
 have H2:=hid h2
 have HB:=hid hb0
 have hwsz:=HW.out.size
 rw [Hgs.out] at hwsz
 clear h0 h1 h2 hb0
 go_loopw [4,8] (fun s4 s8 wr=>∃j:Nat,j<=8/\s8=.int .i64 j/\s4=.int .i64 ((offL.getD j 0:Nat):Int)/\Hid (wr.heap[g+1+1]?=some (.cells (rowZ l j).toArray 249 (0,0)))/\Below (g+1+1) W1 wr) (fun _ s8 _=>8-(intOf s8).toNat)
 case atStart=>exact ⟨0,by omega,rfl,rfl,H2,Below.refl _ _⟩
 case round =>
  obtain ⟨j,hj,rfl,rfl,Hrow,hbr⟩:=hrel
  have hszr:W1.heap.size<=wr.heap.size:=hbr.size
  by_cases hlt:j<8
  ·have hw:=wid_off ⟨j,hlt⟩
   simp only at hw
   have hwid:wr.cell? ⟨2,j,none⟩=some (.int .i64 ((widL.getD j 0:Nat):Int)):=((HW.out.below (by omega) HB.out).below (by omega) hbr) j hlt
   have hrd:Reads wr wr.heap.size (some ⟨g,0,none⟩) 128 (bts l):=reads_row ((hbr.block g (by omega)).trans H0.out) (by omega) HL.out
   have q:=hid (fun k=>get_ok (some ⟨g,0,none⟩) 128 128 _ l (offL.getD j 0) (widL.getD j 0) (wr.drewN k) hw.1 hw.2.1 HS.out (hrd.drewN k) (by decide) (by omega))
   have hx:=numAt_lt HS.out j
   have hcell:=(cell_of_row _ _ j _ _ _ Hrow.out).trans ((List.getElem?_toArray).trans (rowZ_at l j j hlt))
   rw [if_neg (by omega)] at hcell
   have hfz:=frozen_of_row _ _ j _ _ Hrow.out
   have hset:=cells_set (i:=j) (.int .i64 (wrap64 ((numAt l j:Nat):Int))) Hrow.out
   rw [rowZ_set] at hset
   have hbelow:=fun k=>(hbr.trans (show Below (g+1+1) wr (wr.drewN k) from ⟨rfl,rfl,rfl,Nat.le_refl _,fun _ _=>rfl⟩)).setCell (p:=⟨g+1+1,j,none⟩) (Nat.le_refl _) (.int .i64 (wrap64 ((numAt l j:Nat):Int)))
   have HSET:=hid hset
   have HBEL:=hid hbelow
   have hnum:getN (cutAt l (offL.getD j 0) (widL.getD j 0))=numAt l j:=rfl
   rw [hnum] at q
   have Hn:=hid hw.2.2.1
   have hb1:=hw.2.2.2
   have hb2:=hw.2.1
   clear hw hset hbelow hrd hnum
   generalize numAt l j=x at *
   generalize offL.getD j 0=o at *
   generalize widL.getD j 0=d at *
   go_wp2_with fail
   go_quiet ((first | (go_at_call 182;refine (q.out _).mono ?_;rintro e w' ⟨rfl,rfl⟩;exact ⟨rfl,_,rfl⟩)))
   go_wp2_with fail
   go_roundw
   case rel=>exact ⟨j+1,by omega,by go_num,by rw [<- Hn.out];go_num,hid HSET.out,HBEL.out _⟩
   case measure=>simp [intOf];omega
  ·obtain rfl:j=8:=by omega
   have hz:∀i,i<8->wr.cell? ⟨g+1+1,i,none⟩=some (.int .i64 (wrap64 ((numAt l i:Nat):Int))):=fun i hi=>by
    rw [cell_of_row _ _ i _ _ _ Hrow.out,List.getElem?_toArray,rowZ_at l 8 i hi,if_pos hi]
   have m0:=hz 0 (by decide)
   have m1:=hz 1 (by decide)
   have m2:=hz 2 (by decide)
   have m3:=hz 3 (by decide)
   have m4:=hz 4 (by decide)
   have m5:=hz 5 (by decide)
   have m6:=hz 6 (by decide)
   have m7:=hz 7 (by decide)
   have b1:=numAt_lt HS.out 1
   have b2:=numAt_lt HS.out 2
   have b3:=numAt_lt HS.out 3
   have b4:=numAt_lt HS.out 4
   have b5:=numAt_lt HS.out 5
   have b6:=numAt_lt HS.out 6
   have b7:=numAt_lt HS.out 7
   have z:∀i,i<8->numAt l i<2 ^ 32->wrap64 ((numAt l i:Nat):Int)=((numAt l i:Nat):Int):=fun i _ hb=>IntWalk.wrap64_in _ (by omega)
   rw [z 1 (by decide) (Nat.lt_of_lt_of_le b1 (by decide))] at m1
   rw [z 2 (by decide) (Nat.lt_of_lt_of_le b2 (by decide))] at m2
   rw [z 3 (by decide) (Nat.lt_of_lt_of_le b3 (by decide))] at m3
   rw [z 4 (by decide) (Nat.lt_of_lt_of_le b4 (by decide))] at m4
   rw [z 5 (by decide) (Nat.lt_of_lt_of_le b5 (by decide))] at m5
   rw [z 6 (by decide) (Nat.lt_of_lt_of_le b6 (by decide))] at m6
   rw [z 7 (by decide) (Nat.lt_of_lt_of_le b7 (by decide))] at m7
   have e0:=IntWalk.i64_left ((numAt l 0:Nat):Int)
   have hv:Hid ((supOf l).val=.agg #[.int .i64 (wrap64 ((numAt l 0:Nat):Int)),.int .i64 ((numAt l 1:Nat):Int),.int .i64 ((numAt l 2:Nat):Int),.int .i64 ((numAt l 5:Nat):Int),.int .i64 ((numAt l 3:Nat):Int),.int .i64 (IntKind.i8.wrap ((numAt l 4:Nat):Int)),.int .i64 ((numAt l 6:Nat):Int),.int .i64 ((numAt l 7:Nat):Int)]):=hid (by rw [<- e0];rfl)
   have HV:=hv
   clear hz z hv e0 b1 b2 b3 b4 b5 b6 b7
   generalize wrap64 ((numAt l 0:Nat):Int)=y0 at *
   generalize numAt l 1=y1 at *
   generalize numAt l 2=y2 at *
   generalize numAt l 3=y3 at *
   have hw4:wrap64 (IntKind.i8.wrap ((numAt l 4:Nat):Int))=IntKind.i8.wrap ((numAt l 4:Nat):Int):=IntWalk.wrap64_in _ (i8_in _)
   generalize hy4:IntKind.i8.wrap ((numAt l 4:Nat):Int)=y4 at *
   generalize numAt l 4=z4 at *
   generalize numAt l 5=y5 at *
   generalize numAt l 6=y6 at *
   generalize numAt l 7=y7 at *
   have h1r:=(hbr.block (g+1) (by omega)).trans H1.out
   have hinfo:(Tryz.prog.info? 81).map (·.size)=some (#[Value.int .i64 y0,.int .i64 y1,.int .i64 y2,.int .i64 y5,.int .i64 y3,.int .i64 y4,.int .i64 y6,.int .i64 y7]:Array Value).size:=info_sup
   obtain ⟨k0,k1,k2,k3,k4,k5,k6,k7,f0,f1,f2,f3,f4,f5,f6,f7⟩:=cells8_of h1r
   have s0:=store0 h1r (.int .i64 y0) (by rfl)
   have hrow:=put8_row h1r (.int .i64 y0) (.int .i64 y1) (.int .i64 y2) (.int .i64 y5) (.int .i64 y3) (.int .i64 y4) (.int .i64 y6) (.int .i64 y7)
   have hb5:=put8_below (g:=g+1) (HB.out.trans (hbr.mono (by omega))) (by omega) (.int .i64 y0) (.int .i64 y1) (.int .i64 y2) (.int .i64 y5) (.int .i64 y3) (.int .i64 y4) (.int .i64 y6) (.int .i64 y7)
   have hlv:=run_loadVar_row (P:=Tryz.prog) _ (g+1) 81 81 _ (0,0) _ hrow Tryz.underlying81 rfl hinfo
   have HROW:=hid hrow
   have HB5:=hid hb5
   have HLV:=hid hlv
   clear hrow hb5 hlv h1r
   go_wp2_with fail
   refine bodyPost_ret (results_cell (g:=g+1) Tryz.results168 rfl HLV.out) rfl ?_
   exact ⟨by rw [HV.out],by rw [Hgs.out];exact HB5.out⟩
end Go.Proofs.YtepoepmndckmaaaGreatDoor.S
