/-
  What the statement's proof rests on, part 29.
  Conditions: each theorem's own.
-/
import Derived.Test.YtcepognpbeahhaaGreatDoorW27
import Derived.Maps.RangeWalk
open Go.Lib (hid)
namespace Go.Proofs.YtcepognpbeahhaaGreatDoor.Kc
open Go.RowKit Go.Maps
theorem mergeSort_perm_eq {l l':List Int} (h:l.Perm l'):l.mergeSort (fun x y=>decide (x<=y))=l'.mergeSort (fun x y=>decide (x<=y)):=by
 have hs:∀m:List Int,(m.mergeSort (fun x y=>decide (x<=y))).Pairwise (fun a b=>decide (a<=b)=true):=fun m =>
  List.pairwise_mergeSort (fun a b c h1 h2=>by simp only [decide_eq_true_eq] at h1 h2 ⊢;omega) (fun a b=>by simp only [Bool.or_eq_true,decide_eq_true_eq];omega) m
 exact List.Perm.eq_of_pairwise (fun a b _ _ h1 h2=>by simp only [decide_eq_true_eq] at h1 h2;omega) (hs l) (hs l') (((List.mergeSort_perm l _).trans h).trans (List.mergeSort_perm l' _).symm)
theorem sortRow {w:World} {base n:Nat} {v:Value} {zs:List Int} (h:w.ownsRow base 3 1 v n (zs.map (Value.int .i64))) (hn:n<=1048576) :
  Calls Tryz.prog 82 #[v] w fun r w'=>r=.returned (.tuple #[])/\w'.ownsRow base 3 1 v n ((zs.mergeSort fun x y=>decide (x<=y)).map (Value.int .i64))/\w.grownBy w' v.ownBlock:=by
 have hl:zs.length=n:=by have:=h.1;simpa using this
 rcases h.2 with ⟨rfl,h0⟩ | ⟨g,cap',cur,rfl,hbase,hb,hnc,hcm,hcs,ht⟩
 ·have hz:zs=[]:=List.eq_nil_of_length_eq_zero (by omega)
  subst hz
  refine (Tryz.slices_Sort_int_none none 0 w).mono ?_
  rintro r w' ⟨rfl,rfl⟩
  exact ⟨rfl,by simpa using h,⟨rfl,rfl,rfl,Nat.le_refl _,fun _ _ _=>rfl⟩⟩
 ·subst hl
  have hH:=holds_of_blockI (ss:=zs) hb (by rw [Nat.mul_one] at ht;exact ht)
  refine (Tryz.slices_Sort_int g 0 cap' zs w hH (lt_of_block hb) (by omega)).mono ?_
  rintro r w' ⟨rfl,q,os,rfl⟩
  exact ⟨rfl,ownsRow_sortedI (by simp) hbase hb hnc hcm hcs,grownBy_sortedI _⟩
section
variable {V:VolK} {w w':World} {g:Cg} {most:Nat} {l:List En} {x:V.σ} {k:Nat}
def fFlush (e:En):Bool:=e.dirty && decide (e.pins=0)
theorem takeD (h:Ca V w g most l) {e:En} (he:e∈l):Calls Tryz.prog 62 #[.pointer (some ⟨e.p,0,none⟩)] w fun r w'=>r=.returned (.bool e.dirty)/\w=w':=by
 have e128:=h.e128 he
 clear h
 go_enter Tryz.func62,Tryz.ntmps62
 go_wp2
 go_ret
 exact ⟨rfl,rfl⟩
theorem takeF (h:Ca V w g most l) {e:En} (he:e∈l):Calls Tryz.prog 51 #[.pointer (some ⟨e.p,0,none⟩)] w fun r w'=>r=.returned (.bool (fFlush e))/\w=w':=by
 have e128:=h.e128 he
 have e129:=h.e129 he
 clear h
 unfold fFlush
 cases hd:e.dirty with
 | false =>
  rw [hd] at e128
  clear hd
  go_enter Tryz.func51,Tryz.ntmps51
  go_wp2
  go_ret
  exact ⟨rfl,rfl⟩
 | true =>
  rw [hd] at e128
  clear hd
  by_cases hp:e.pins=0
  ·rw [decide_eq_true hp]
   rw [hp] at e129
   clear hp
   go_enter Tryz.func51,Tryz.ntmps51
   go_wp2
   go_ret
   exact ⟨rfl,rfl⟩
  ·rw [decide_eq_false hp]
   have q:((e.pins:Int) == 0)=false:=by rw [beq_eq_false_iff_ne];omega
   clear hp
   go_enter Tryz.func51,Tryz.ntmps51
   go_wp2
   go_ret
   exact ⟨rfl,rfl⟩
structure Gat (f:En->Bool) (l:List En) (D:DataW Unit) (left:Lit->Bool) (ks:List Int):Prop where
 nd:ks.Nodup
 mem:∀y,y∈ks↔∃e∈l,(e.k:Int)=y/\f e=true/\left (.int .i64 y)=false
 sub:∀z,left z=true->Maps.has D z=true
theorem Gat.start (f:En->Bool) (l:List En) (D:DataW Unit) (hf:∀x:Int,Maps.has D (.int .i64 x)=(ptrs l x).isSome/\D.atKey (.int .i64 x) (ptrD none)=ptrD (ptrs l x)) (hn:(l.map En.k).Nodup):Gat f l D (Maps.has D) [] :=
 ⟨List.nodup_nil,fun y=>(by
  constructor
  ·intro h;exact absurd h (by simp)
  ·rintro ⟨e,he,rfl,_,h0⟩
   rw [(hf _).1] at h0
   unfold ptrs at h0
   rw [finds_mem hn he] at h0
   exact absurd h0 (by simp)),fun _ h=>h⟩
theorem Gat.step {f:En->Bool} {D:DataW Unit} {left:Lit->Bool} {ks:List Int} (h:Gat f l D left ks) (hn:(l.map En.k).Nodup) {e:En} (he:e∈l) (hl:left (.int .i64 (e.k:Int))=true) :
  Gat f l D (fun z=>left z && !z.sameKey (.int .i64 (e.k:Int))) (if f e then ks++[(e.k:Int)] else ks):=by
 have hnot:(e.k:Int) ∉ ks:=fun hm=>by
  obtain ⟨_,_,_,_,h0⟩:=(h.mem _).1 hm
  rw [hl] at h0
  cases h0
 have hsk:∀y:Int,(Lit.int .i64 y).sameKey (.int .i64 (e.k:Int))=decide (y=(e.k:Int)):=fun y=>by simp [Lit.sameKey]
 refine ⟨?_,fun y=>?_,fun z hz=>h.sub z (by simp only [Bool.and_eq_true] at hz;exact hz.1)⟩
 ·split
  ·rw [List.nodup_append]
   exact ⟨h.nd,by simp,fun a ha b hb=>by rw [List.mem_singleton.1 hb];intro e2;exact hnot (e2▸ha)⟩
  ·exact h.nd
 ·simp only [hsk]
  by_cases hy:y=(e.k:Int)
  ·subst hy
   constructor
   ·intro hm
    refine ⟨e,he,rfl,?_,by simp⟩
    cases hfe:f e with
    | true=>rfl
    | false =>
     rw [hfe] at hm
     exact absurd hm hnot
   ·rintro ⟨e2,he2,hk2,hf2,_⟩
    rw [one_of_key hn he2 he (by omega)] at hf2
    rw [hf2]
    simp
  ·have h1:(y∈if f e=true then ks++[(e.k:Int)] else ks)↔y∈ks:=by
    split
    ·simp [hy]
    ·rfl
   rw [h1,h.mem y]
   simp [hy]
theorem Gat.all {f:En->Bool} {D:DataW Unit} {left:Lit->Bool} {ks:List Int} (h:Gat f l D left ks) (hn:(l.map En.k).Nodup) (hl:∀z,left z=false):ks.mergeSort (fun x y=>decide (x<=y))=risesE f l:=by
 refine mergeSort_perm_eq ((List.perm_ext_iff_of_nodup h.nd ?_).2 fun y=>?_)
 ·have:((l.filter f).map En.k).Nodup:=(List.Sublist.map _ List.filter_sublist).nodup hn
  rw [List.Nodup,List.pairwise_map] at this ⊢
  exact this.imp fun h1 h2=>h1 (by omega)
 ·rw [h.mem y]
  simp only [List.mem_map,List.mem_filter]
  constructor
  ·rintro ⟨e,he,hk,hf,_⟩;exact ⟨e,⟨he,hf⟩,hk⟩
  ·rintro ⟨e,⟨he,hf⟩,hk⟩;exact ⟨e,he,hk,hf,hl _⟩
theorem Gat.few {f:En->Bool} {D:DataW Unit} {left:Lit->Bool} {ks:List Int} (h:Gat f l D left ks):ks.length<=l.length:=by
 have:=nodup_len ks (l.map fun e=>(e.k:Int)) h.nd fun y hy=>by
  obtain ⟨e,he,hk,_⟩:=(h.mem y).1 hy
  exact List.mem_map.2 ⟨e,he,hk⟩
 simpa using this
theorem ranges_row {wr:World} {b r n q:Nat} {D:DataW Unit} {left:Lit->Bool} {cnt:Nat} {base:Nat} {v:Value} {xs:List Value} (h:wr.ranges Tryz.prog 3 ptrR b r n D left cnt) (ho:wr.ownsRow base 3 1 v q xs):v.ownBlock≠some r:=by
 intro e
 obtain ⟨es,clock,since,seen,c0,_,_,_,_,hr,_⟩:=h
 rcases ho.2 with ⟨rfl,_⟩ | ⟨gg,cap,cur,rfl,_,hh,_⟩
 ·cases e
 ·simp only [Value.ownBlock,Option.some.injEq] at e
  rw [e,hr] at hh
  cases hh
set_option maxRecDepth 20000 in
theorem cGather (h:Ca V w g most l) (f:En->Bool) (F:Nat) (hen:∀args W,(callFunc F args).run Tryz.prog W=.ok (.enter F args) W)
  (hF:∀W,Ca V W g most l->∀e∈l,Calls Tryz.prog F #[.pointer (some ⟨e.p,0,none⟩)] W fun r w'=>r=.returned (.bool (f e))/\W=w') :
  Calls Tryz.prog 50 #[.pointer (some ⟨g.c,0,none⟩),.func (.func F) #[] #[]] w fun r w'=>∃v,r=.returned v /\
   w'.ownsRow w.heap.size 3 1 v (risesE f l).length ((risesE f l).map (Value.int .i64))/\Below w.heap.size w w':=by
 obtain ⟨i0,hi,hz0,hz1,hz2⟩:=info_parts info_int
 have c2:=h.c2
 obtain ⟨Dm,hown,hf⟩:=h.map
 have hglt:=hown.lt
 have HH:=hid h
 have HF:=hid hF
 have HD:=hid hf
 have hM:l.length<=1024:=Nat.le_trans h.len h.mostM
 have hstart:=hid (Gat.start f l Dm hf h.keys)
 clear h hF hf
 go_enter Tryz.func50,Tryz.ntmps50
 go_wp2_with (first | (at_range;refine wpList_range_own _ rfl _ 91 rfl 3 90 Sh.lawInt Tryz.underlying91 ptrR g.m 1024 Dm rfl hown ?_;intro w0 hrg0 hg0 hs0) | go_in)
 go_frame
 go_loopw [5] (fun s5 wr=>∃left cnt ks,wr.ranges Tryz.prog 3 ptrR g.m w.heap.size 1024 Dm left cnt/\Below w.heap.size w wr/\wr.ownsRow w.heap.size 3 1 s5 ks.length (ks.map (Value.int .i64))/\Hid (Gat f l Dm left ks)) (fun _ wr=>wr.rangeLeft g.m w.heap.size)
 case atStart=>exact ⟨_,_,[],hrg0,⟨hg0.os,hg0.tape,hg0.output,hg0.size,fun b hb=>hg0.block b hb (by simp)⟩,⟨rfl,.inl ⟨rfl,rfl⟩⟩,hstart⟩
 case round =>
  obtain ⟨left,cnt,ks,hrg,hbel,hrow,hgat⟩:=hrel
  have hfew:=hgat.out.few
  have hne:=ranges_row hrg hrow
  clear hrg0 hg0 hs0 hown c2 hstart
  go_wp2_with (first
   | (at_next;refine wpList_next_ranges _ rfl _ rfl 3 Sh.lawInt ptrR (Value.int .i64) ptrV (fun key kl hk=>by obtain ⟨q,e1,_⟩:=Maps.keyOf_int_inv Tryz.underlying3 hk;exact ⟨q,e1⟩) (fun v y hv=>by obtain ⟨q,e1,_⟩:=ptrR_inv hv;exact ⟨q,e1⟩) g.m w.heap.size 1024 Dm left cnt rfl hrg ?_ ?_)
   | fail)
  ·intro hc0 hl0
   have HG:=hid (And.intro hl0 (And.intro hbel hrow))
   have HSO:=hid (sortRow hrow (by omega))
   clear hl0 hbel hrow hrg hc0 hne
   go_wp2_with fail
   refine HSO.out.mono ?_
   rintro r w2 ⟨rfl,hrow2,hg2⟩
   have H2:=hid (And.intro hrow2 hg2)
   clear hrow2 hg2 HSO
   go_wp2
   go_ret
   obtain ⟨hl0,hbel,hrow⟩:=HG.out
   obtain ⟨hrow2,hg2⟩:=H2.out
   have ha:=hgat.out.all HH.out.keys hl0
   refine ⟨_,rfl,?_,hbel.grown hg2 hbel.size (fun b hb=>(hrow.lt b hb).1)⟩
   rw [<- ha,List.length_mergeSort]
   exact hrow2
  ·intro y c kl z1 z2 w1 cnt1 hkey hlk hR hat hrg1 hlt hg1 hs1 hen2
   obtain ⟨y2,e1,rfl,_⟩:=Maps.keyOf_int_inv Tryz.underlying3 hkey
   injection e1 with _ e1
   subst e1
   obtain ⟨c2,e2,ez⟩:=ptrR_inv hR
   have ez1:z1=ptrD c2:=congrArg Prod.fst ez
   subst ez1
   have hcc:ptrV c=ptrV c2:=e2
   have hhas:=hgat.out.sub _ hlk
   rw [(HD.out y).1] at hhas
   have hat2:=hat (ptrD none)
   rw [(HD.out y).2] at hat2
   have hc2:ptrs l y=c2:=ptrD_inj hat2
   rcases hfe:finds l y with _ | e
   ·unfold ptrs at hhas
    rw [hfe] at hhas
    exact absurd hhas (by simp)
   ·obtain ⟨he,hek⟩:=finds_some hfe
    have hcp:ptrV c=.pointer (some ⟨e.p,0,none⟩):=by
     rw [hcc,<- hc2]
     unfold ptrs
     rw [hfe]
     rfl
    have hb1:Below w.heap.size w w1:=hbel.grown hg1 hbel.size (fun b hb=>by injection hb with hb;omega)
    have hrow1:=hrow.kept hg1 (.inr hne)
    have hgat2:=hid (hgat.out.step HH.out.keys he (by rw [hek];exact hlk))
    rw [hek] at hgat2
    have HT:=hid (HF.out w1 (HH.out.grown hb1) e he)
    rw [hcp] at hen2
    rw [hcp]
    have H1:=hid (And.intro hrg hrg1)
    have HBL:=hid hb1
    clear hs1 ez hhas hat2 hc2 hcc hR hkey hfe hek hat hcp hlk hrow hbel hne hgat hg1 e2 hrg he
    cases hfe2:f e with
    | false =>
     rw [hfe2] at HT hgat2
     clear hfe2
     go_wp2_with fail
     refine HT.out.mono ?_
     rintro r w2 ⟨rfl,rfl⟩
     go_wp2
     go_roundw
     case rel=>exact ⟨_,cnt1,ks,hrg1,HBL.out,hrow1,hgat2⟩
     case measure =>
      rw [H1.out.2.left_eq,H1.out.1.left_eq]
      omega
    | true =>
     rw [hfe2] at HT hgat2
     clear hfe2
     have hglt1:g.m<w1.heap.size:=Nat.lt_of_lt_of_le hglt hb1.size
     clear hb1
     go_wp2_with fail
     refine HT.out.mono ?_
     rintro r w2 ⟨rfl,rfl⟩
     go_wp2_with (first
      | (at_builtin;go_must (refine wpList_append_lies _ rfl _ _ 54 rfl w.heap.size 3 i0 _ 1 8 Tryz.underlying54 hi hz0 hz1 hz2 rfl (by decide) _ ks.length _ rfl (hrow1.alloc _) ⟨w1.heap.size,0,none⟩ 1 1 [.int .i64 y] rfl rfl (cells1_new _ _ _) (one1 _) (by decide) (by unfold maxLen;omega) (by omega) (by simp;exact Nat.le_succ_of_le HBL.out.size) _ rfl ?_;intro g3 cap3 w3 hown3 hgrow3 hlie _))
      | go_in)
     go_roundw
     case rel =>
      have hne1:=ranges_row hrg1 hrow1
      refine ⟨_,cnt1,ks++[y],(hrg1.alloc _).kept hgrow3 (fun e2=>by
       have:=(hrow1.lt _ e2.symm).1
       omega) (fun e2=>hne1 e2.symm),(HBL.out.alloc HBL.out.size _).grown hgrow3 (by simp;exact Nat.le_succ_of_le HBL.out.size) (fun b hb=>(hrow1.lt b hb).1),?_,hgat2⟩
      rw [List.length_append,List.map_append]
      exact hown3
     case measure =>
      have h3:=(hrg1.alloc (.cells #[Value.int .i64 y] 3)).kept hgrow3 (fun e2=>by
       have:=(hrow1.lt _ e2.symm).1
       omega) (fun e2=>ranges_row hrg1 hrow1 e2.symm)
      rw [h3.left_eq,H1.out.1.left_eq]
      omega
end
section
variable {V:VolK} {w w':World} {g:Cg} {most:Nat} {l:List En} {x:V.σ} {k:Nat}
theorem mem_rises {f:En->Bool} {y:Int} (h:y∈risesE f l):∃e∈l,(e.k:Int)=y:=by
 unfold risesE at h
 rw [List.mem_mergeSort] at h
 obtain ⟨e,he,hk⟩:=List.mem_map.1 h
 exact ⟨e,(List.mem_filter.1 he).1,hk⟩
theorem rises_few {f:En->Bool}:(risesE f l).length<=l.length:=by
 unfold risesE
 rw [List.length_mergeSort,List.length_map]
 exact List.length_filter_le _ _
set_option maxRecDepth 20000 in
theorem cFlush (h:Cav V w g most l x (k+1+(risesE fFlush l).length)):Calls Tryz.prog 17 #[.pointer (some ⟨g.c,0,none⟩)] w fun r w' =>
  ∃(y:Int) (l':List En) (x':V.σ),r=.returned (.int .i64 y)/\FlushR V l x y l' x'/\Cav V w' g most l' x' k/\Sh.Moves (AllC V x g l) w (AllC V x' g l') w':=by
 have HN:=hid (cNone h.ca)
 have hen:=enters_fn (f:=51) Tryz.func51 (by kernel_rfl) rfl
 have HG:=hid (cGather h.ca fFlush 51 hen (fun W hW e he=>takeF hW he))
 have HH:=hid h
 have hM:(risesE fFlush l).length<=1024:=Nat.le_trans rises_few (Nat.le_trans h.ca.len h.ca.mostM)
 have HKS:=hid (fun y (hy:y∈risesE fFlush l)=>mem_rises hy)
 have HFR:Hid (∀(l':List En) (x1 x':V.σ) (y:Int),WbsR V (risesE fFlush l) l x 0 l' x1->V.fl x1 y x'->FlushR V l x y l' x'):=hid fun l' x1 x' y a b=>.all l' x1 x' y a b
 have HFN:Hid (∀(y:Int) (l':List En) (x':V.σ),WbsR V (risesE fFlush l) l x y l' x'->y≠0->FlushR V l x y l' x'):=hid fun y l' x' a b=>.no y l' x' a b
 clear h hen
 generalize hks:risesE fFlush l=ks at *
 clear hks
 go_enter Tryz.func17,Tryz.ntmps17
 go_wp2_with fail
 refine HN.out.mono ?_
 rintro r w0 ⟨rfl,rfl⟩
 go_wp2_with fail
 refine HG.out.mono ?_
 rintro r w1 ⟨v,rfl,hrow,hb1⟩
 obtain ⟨A,cp,hv⟩:=Sh.own_shape2 hrow
 subst hv
 have HW1:=hid hb1
 have hrel0:Hid (∃lj xj,(∀y l' x',WbsR V (ks.drop 0) lj xj y l' x'->WbsR V ks l x y l' x')/\Cav V w1 g most lj xj (k+1+(ks.length-0))/\Sh.Moves (AllC V x g l) w (AllC V xj g lj) w1/\lj.map En.k=l.map En.k /\
   w1.ownsRow w.heap.size 3 1 (.slice A ks.length cp) ks.length (ks.map (Value.int .i64))/\∀b,(Value.slice A ks.length cp).ownBlock=some b->¬AllC V xj g lj b) :=
  hid ⟨l,x,fun _ _ _ h=>h,HH.out.grown hb1,⟨(only_below hb1).mono (fun _ e=>e.elim),fun b e=>.inl e⟩,rfl,hrow,fun b hb e=>by
   have h1:=(hrow.lt b hb).1
   have h2:=HH.out.lt e
   omega⟩
 clear hrow hb1 HG HN
 go_wp2
 go_loopw [11] (fun s wr=>∃j:Nat,j<=ks.length/\s=.int .i64 j/\Hid (∃lj xj,(∀y l' x',WbsR V (ks.drop j) lj xj y l' x'->WbsR V ks l x y l' x')/\Cav V wr g most lj xj (k+1+(ks.length-j))/\Sh.Moves (AllC V x g l) w (AllC V xj g lj) wr/\lj.map En.k=l.map En.k /\
   wr.ownsRow w.heap.size 3 1 (.slice A ks.length cp) ks.length (ks.map (Value.int .i64))/\∀b,(Value.slice A ks.length cp).ownBlock=some b->¬AllC V xj g lj b)) (fun s _=>ks.length-(intOf s).toNat)
 case atStart=>exact ⟨0,Nat.zero_le _,rfl,hrel0⟩
 case round =>
  obtain ⟨j,hj,rfl,hrel⟩:=hrel
  clear hrel0
  by_cases hlt:j<ks.length
  ·obtain ⟨lj,xj,hw,hc,hmv,hkeys,hrow,hno⟩:=hrel.out
   obtain ⟨gb,cp2,hv,_,_,_⟩:=Sh.own_form hrow (by omega)
   injection hv with hv _ hv3
   subst hv
   have hget:ks[j]?=some ks[j]:=List.getElem?_eq_getElem hlt
   have hcell:wr.cell? ⟨gb,j,none⟩=some (.int .i64 ks[j]):=Sh.cell_at hrow (by rw [List.getElem?_map,hget];rfl)
   obtain ⟨e0,he0,hk0⟩:=HKS.out ks[j] (List.getElem_mem hlt)
   obtain ⟨e,he,hke⟩:∃e∈lj,e.k=e0.k:=by
    have:e0.k∈lj.map En.k:=by rw [hkeys];exact List.mem_map_of_mem he0
    obtain ⟨z,hz,h2⟩:=List.mem_map.1 this
    exact ⟨z,hz,h2⟩
   have hek:(e.k:Int)=ks[j]:=by rw [hke];exact hk0
   have hdrop:ks.drop j=ks[j] :: ks.drop (j+1):=List.drop_eq_getElem_cons hlt
   have hbud:k+1+(ks.length-j)=(k+1+(ks.length-(j+1)))+1:=by omega
   rw [hbud] at hc
   have HWB:=hid (cWB hc he)
   rw [hek] at HWB
   rw [hdrop] at hw
   have hfe:=finds_mem hc.ca.keys he
   rw [hek] at hfe
   have HX:=hid (And.intro hw (And.intro hc (And.intro hmv (And.intro hkeys (And.intro hrow (And.intro hno (And.intro hfe he)))))))
   clear hw hc hmv hkeys hrow hno hrel hfe he hek hdrop hbud he0 hk0 hke hv3 hget
   generalize ks[j]=kj at *
   go_wp2_with fail
   refine HWB.out.mono ?_
   rintro r w2 ⟨y,x',e',rfl,hwb,hst⟩
   have H2:=hid (And.intro hwb hst)
   clear hwb hst HWB hcell
   by_cases hy:y=0
   ·subst hy
    go_wp2
    go_roundw
    case rel =>
     obtain ⟨hw,hc,hmv,hkeys,hrow,hno,hfe,he⟩:=HX.out
     obtain ⟨hwb,hst⟩:=H2.out
     refine ⟨j+1,by omega,by go_num,hid ⟨putE lj e',x',fun y l' x2 h=>hw y l' x2 (.next kj _ lj xj e e' x' y l' x2 hfe hwb h),hst.1,hmv.trans hst.2,by rw [putE_keys];exact hkeys,Sh.same_row hrow (fun b hb=>hst.2.1.block b (hrow.lt b hb).2 (hno b hb)),fun b hb e2=>?_⟩⟩
     rcases hst.2.2 b e2 with q | q
     ·exact hno b hb q
     ·have:=(hrow.lt b hb).2
      omega
    case measure=>simp [intOf];omega
   ·have q:(y != 0)=true:=by simpa using hy
    have HY:=hid hy
    clear hy
    go_wp2
    go_ret
    obtain ⟨hw,hc,hmv,hkeys,hrow,hno,hfe,he⟩:=HX.out
    obtain ⟨hwb,hst⟩:=H2.out
    have hee:=hwb.refused HY.out
    subst hee
    rw [putE_self hc.ca.keys he] at hst
    exact ⟨y,lj,x',rfl,HFN.out y lj x' (hw y lj x' (.no kj _ lj xj e' y x' hfe hwb HY.out)) HY.out,hst.1.less (by omega),hmv.trans hst.2⟩
  ·obtain rfl:j=ks.length:=by omega
   obtain ⟨lj,xj,hw,hc,hmv,hkeys,hrow,hno⟩:=hrel.out
   rw [List.drop_length] at hw
   rw [Nat.sub_self,Nat.add_zero] at hc
   have c0:=hc.ca.c0
   have HF:=hid (V.flush hc.vol)
   have HX:=hid (And.intro hw (And.intro hc hmv))
   clear hw hc hmv hkeys hrow hno hrel
   go_wp2_with fail
   refine HF.out.mono ?_
   rintro r w2 ⟨y,x',rfl,hfl,hi,hm⟩
   have H2:=hid (And.intro hfl (And.intro hi hm))
   clear hfl hi hm HF c0
   go_wp2
   go_ret
   obtain ⟨hw,hc,hmv⟩:=HX.out
   obtain ⟨hfl,hi,hm⟩:=H2.out
   have hmm:=hc.moved hi hm
   exact ⟨y,lj,x',rfl,HFR.out lj xj x' y (hw 0 lj xj (.nil lj xj)) hfl,hmm.1,hmv.trans hmm.2⟩
theorem cDirty (h:Ca V w g most l):Calls Tryz.prog 21 #[.pointer (some ⟨g.c,0,none⟩)] w fun r w'=>∃v,r=.returned v /\
  w'.ownsRow w.heap.size 3 1 v (risesE En.dirty l).length ((risesE En.dirty l).map (Value.int .i64))/\Below w.heap.size w w':=by
 have HN:=hid (cNone h)
 have hen:=enters_fn (f:=62) Tryz.func62 (by kernel_rfl) rfl
 have HG:=hid (cGather h En.dirty 62 hen (fun W hW e he=>takeD hW he))
 clear h hen
 go_enter Tryz.func21,Tryz.ntmps21
 go_wp2_with fail
 refine HN.out.mono ?_
 rintro r w0 ⟨rfl,rfl⟩
 go_wp2_with fail
 refine HG.out.mono ?_
 rintro r w1 ⟨v,rfl,hrow,hb1⟩
 have H2:=hid (And.intro hrow hb1)
 clear hrow hb1
 go_wp2
 go_ret
 exact ⟨v,rfl,H2.out⟩
theorem cBlocks (h:Ca V w g most l):Calls Tryz.prog 23 #[.pointer (some ⟨g.c,0,none⟩)] w fun r w'=>∃v,r=.returned v /\
  w'.ownsRow w.heap.size 3 1 v l.length (keysV l)/\Below w.heap.size w w':=by
 have HN:=hid (cNone h)
 have c3:=h.c3
 have hM:l.length<=1024:=Nat.le_trans h.len h.mostM
 rcases h.row.2 with ⟨hu,h0⟩ | ⟨b,cap,cur,hu,_,hb,hnc,hcm,hcs,ht⟩
 ·rw [hu] at c3
  have hl:l=[]:=List.eq_nil_of_length_eq_zero h0
  have HC:=hid (Tryz.slices_Clone_int_nil 0 0 w)
  clear h hu h0
  go_enter Tryz.func23,Tryz.ntmps23
  go_wp2_with fail
  refine HN.out.mono ?_
  rintro r w0 ⟨rfl,rfl⟩
  go_wp2_with fail
  refine HC.out.mono ?_
  rintro r w1 ⟨rfl,rfl⟩
  go_wp2
  go_ret
  subst hl
  exact ⟨_,rfl,⟨rfl,.inl ⟨rfl,rfl⟩⟩,Below.refl _ _⟩
 ·rw [hu] at c3
  have hlen:(intsK l).length=l.length:=by simp [intsK]
  have HC:=hid (Tryz.slices_Clone_int b 0 l.length cap (intsK l) w (by rw [hlen];exact Nat.le_refl _) (by omega) (fun j hj=>by
   have hr:=h.row
   rw [hu] at hr
   have hj2:j<l.length:=by rw [<- hlen];exact hj
   rw [Nat.zero_add,Sh.cell_at hr (keysV_get l j hj2)]
   simp [intsK,hj2]))
  have hk:((intsK l).take l.length).map (Value.int .i64)=keysV l:=by rw [List.take_of_length_le (by rw [hlen];exact Nat.le_refl _),intsK_V]
  rw [hk] at HC
  clear h hu hb hcs ht hk hlen
  go_enter Tryz.func23,Tryz.ntmps23
  go_wp2_with fail
  refine HN.out.mono ?_
  rintro r w0 ⟨rfl,rfl⟩
  go_wp2_with fail
  refine HC.out.mono ?_
  rintro r w1 ⟨v,rfl,hrow,_,hb1⟩
  have H2:=hid (And.intro hrow hb1)
  clear hrow hb1
  go_wp2
  go_ret
  exact ⟨v,rfl,H2.out⟩
end
section
variable {V:VolK} {w w':World} {g:Cg} {most:Nat} {l:List En} {x:V.σ} {k:Nat}
theorem cNew (h:V.is w x k) (hm1:1<=most) (hM:most<=1024):Calls Tryz.prog 27 #[.pointer (some ⟨V.v,0,none⟩),.int .i64 (most:Int)] w fun r w' =>
  ∃g:Cg,r=.returned (.tuple #[.pointer (some ⟨g.c,0,none⟩),.int .i64 0])/\Cav V w' g most [] x k/\Sh.Moves (V.own x) w (AllC V x g []) w':=by
 have hb:Below w.heap.size w ((w.alloc (.map #[] 0)).alloc (.cells #[.pointer (some ⟨V.v,0,none⟩),.int .i64 (most:Int),.map (some w.heap.size),.slice none 0 0] 93)):=((Below.refl _ _).alloc (Nat.le_refl _) _).alloc (by simp) _
 have HH:=hid (And.intro h (And.intro hm1 (And.intro hM hb)))
 have q1:decide ((most:Int)<1)=false:=by simp;omega
 have q2:decide ((most:Int)>1024)=false:=by simp;omega
 have hmm:=@run_makeMap Tryz.prog
 clear h hm1 hM hb
 go_enter Tryz.func27,Tryz.ntmps27
 go_wp2
 go_ret2
 obtain ⟨h,hm1,hM,hb⟩:=HH.out
 have hlt:∀b,V.own x b->b<w.heap.size:=V.lt h
 refine ⟨⟨w.heap.size+1,w.heap.size,.slice none 0 0⟩,by simp,⟨⟨hm1,hM,?_,⟨rfl,.inl ⟨rfl,rfl⟩⟩,Nat.zero_le _,?_,fun e he=>absurd he (by simp),fun e he=>absurd he (by simp),fun e he=>absurd he (by simp),fun e he=>absurd he (by simp),List.nodup_nil,List.nodup_nil⟩,V.stays h (only_below hb) (fun _ e=>e.elim),fun b hb2 e=>?_⟩,(only_below hb).mono (fun _ e=>e.elim),fun b hb2=>?_⟩
 ·have:=heap_alloc_new (w.alloc (.map #[] 0)) (.cells #[.pointer (some ⟨V.v,0,none⟩),.int .i64 (most:Int),.map (some w.heap.size),.slice none 0 0] 93)
  simpa using this
 ·have h1:PMap (w.alloc (.map #[] 0)) w.heap.size 0 (ptrs []):=PMap.made w
  exact (h1.same (Below.heap_alloc _ _ _ h1.lt)).mono (Nat.zero_le _)
 ·have h1:=hlt b hb2
  rcases e with e | e | e | ⟨_,he,_⟩
  ·simp only at e;omega
  ·simp only at e;omega
  ·cases e
  ·exact absurd he (by simp)
 ·rcases hb2 with e | e | e | e | ⟨_,he,_⟩
  ·exact .inl e
  ·right;simp only at e;omega
  ·right;simp only at e;omega
  ·cases e
  ·exact absurd he (by simp)
theorem cNew_no (p:Option Addr) (n:Int) (w:World) (h:p=none\/n<1\/1024<n):Calls Tryz.prog 27 #[.pointer p,.int .i64 n] w fun r w'=>r=.returned (.tuple #[.pointer none,.int .i64 1])/\w=w':=by
 rcases p with _ | a
 ·clear h
  go_enter Tryz.func27,Tryz.ntmps27
  go_wp2
  go_ret2
  exact ⟨rfl,rfl⟩
 ·by_cases h1:n<1
  ·have q1:decide (n<1)=true:=by simpa using h1
   clear h h1
   go_enter Tryz.func27,Tryz.ntmps27
   go_wp2
   go_ret2
   exact ⟨rfl,rfl⟩
  ·have h2:1024<n:=by rcases h with h | h | h<;>first | cases h | omega
   have q1:decide (n<1)=false:=by simpa using h1
   have q2:decide (n>1024)=true:=by simpa using h2
   clear h h1 h2
   go_enter Tryz.func27,Tryz.ntmps27
   go_wp2
   go_ret2
   exact ⟨rfl,rfl⟩
/-! ### no cache -/
end
section
variable {V:VolK} {w w':World} {g:Cg} {most:Nat} {l:List En} {x:V.σ} {k:Nat}
theorem step_pins (h:Cav V w g most l x k) {e:En} (he:e∈l) (n:Nat) (hn:n<=4611686018427387904):StepC V w g most l x (putE l { e with pins:=n }) x k (w.setCell ⟨e.p,129,none⟩ (.int .i64 (n:Int))) :=
 h.put he (e:={ e with pins:=n }) rfl rfl (h.ca.secs e he) hn (by rw [heap_setCell_same _ _ _ _ _ _ (h.ca.ent e he),set_pins e (h.ca.secs e he)]) ((Sh.Only.refl (fun b=>b=e.p) w).setCell (p:=⟨e.p,129,none⟩) (.inl rfl) _)
theorem cPin (h:Cav V w g most l x k) (n:Int) (hn:-9223372036854775808<=n/\n<=9223372036854775807) (hp:∀e∈l,e.pins<4611686018427387904):Calls Tryz.prog 20 #[.pointer (some ⟨g.c,0,none⟩),.int .i64 n] w fun r w' =>
  (finds l n=none/\r=.returned (.int .i64 7)/\w=w')\/∃e,finds l n=some e/\r=.returned (.int .i64 0)/\StepC V w g most l x (putE l { e with pins:=e.pins+1 }) x k w':=by
 have HN:=hid (cNone h.ca)
 have c2:=h.ca.c2
 have look:=h.ca.look n hn
 rcases hf:finds l n with _ | e
 ·rw [show ptrV (ptrs l n)=.pointer none by unfold ptrs;rw [hf];rfl] at look
  clear h hp hf hn
  go_enter Tryz.func20,Tryz.ntmps20
  go_wp2_with fail
  refine HN.out.mono ?_
  rintro r w0 ⟨rfl,rfl⟩
  go_wp2
  go_ret
  exact .inl ⟨trivial,rfl,rfl⟩
 ·obtain ⟨he,_⟩:=finds_some hf
  rw [show ptrV (ptrs l n)=.pointer (some ⟨e.p,0,none⟩) by unfold ptrs;rw [hf];rfl] at look
  have e129:=h.ca.e129 he
  have f129:=h.ca.efree he 129
  have hpe:=hp e he
  have hwr:(e.pins:Int)+1<=9223372036854775807:=by omega
  have hwr0:0<=(e.pins:Int):=by omega
  have HS:=hid (step_pins h he (e.pins+1) (by omega))
  rw [show ((e.pins+1:Nat):Int)=(e.pins:Int)+1 by omega] at HS
  clear h hp hf hn hpe
  generalize hpi:(e.pins:Int)=pi at *
  clear hpi
  go_enter Tryz.func20,Tryz.ntmps20
  go_wp2_with fail
  refine HN.out.mono ?_
  rintro r w0 ⟨rfl,rfl⟩
  go_wp2
  go_ret
  exact .inr ⟨e,rfl,rfl,HS.out⟩
theorem cUnpin (h:Cav V w g most l x k) (n:Int) (hn:-9223372036854775808<=n/\n<=9223372036854775807):Calls Tryz.prog 22 #[.pointer (some ⟨g.c,0,none⟩),.int .i64 n] w fun r w' =>
  ((finds l n=none\/∃e,finds l n=some e/\e.pins=0)/\r=.returned (.int .i64 7)/\w=w')\/∃e,finds l n=some e/\e.pins≠0/\r=.returned (.int .i64 0)/\StepC V w g most l x (putE l { e with pins:=e.pins-1 }) x k w':=by
 have HN:=hid (cNone h.ca)
 have c2:=h.ca.c2
 have look:=h.ca.look n hn
 rcases hf:finds l n with _ | e
 ·rw [show ptrV (ptrs l n)=.pointer none by unfold ptrs;rw [hf];rfl] at look
  clear h hf hn
  go_enter Tryz.func22,Tryz.ntmps22
  go_wp2_with fail
  refine HN.out.mono ?_
  rintro r w0 ⟨rfl,rfl⟩
  go_wp2
  go_ret
  exact .inl ⟨.inl trivial,rfl,rfl⟩
 ·obtain ⟨he,_⟩:=finds_some hf
  rw [show ptrV (ptrs l n)=.pointer (some ⟨e.p,0,none⟩) by unfold ptrs;rw [hf];rfl] at look
  have e129:=h.ca.e129 he
  have f129:=h.ca.efree he 129
  have hpe:=h.ca.pins e he
  by_cases h0:e.pins=0
  ·rw [h0] at e129
   have H0:=hid h0
   clear h hf hn hpe h0
   go_enter Tryz.func22,Tryz.ntmps22
   go_wp2_with fail
   refine HN.out.mono ?_
   rintro r w0 ⟨rfl,rfl⟩
   go_wp2
   go_ret
   exact .inl ⟨.inr ⟨e,rfl,H0.out⟩,rfl,rfl⟩
  ·have hwr:1<=(e.pins:Int):=by omega
   have hwr2:(e.pins:Int)<=4611686018427387904:=by omega
   have q:((e.pins:Int) == 0)=false:=by rw [beq_eq_false_iff_ne];omega
   have HS:=hid (step_pins h he (e.pins-1) (by omega))
   rw [show ((e.pins-1:Nat):Int)=(e.pins:Int)-1 by omega] at HS
   have H0:=hid h0
   clear h hf hn hpe h0
   generalize hpi:(e.pins:Int)=pi at *
   clear hpi
   go_enter Tryz.func22,Tryz.ntmps22
   go_wp2_with fail
   refine HN.out.mono ?_
   rintro r w0 ⟨rfl,rfl⟩
   go_wp2
   go_ret
   exact .inr ⟨e,rfl,H0.out,rfl,HS.out⟩
end
end Go.Proofs.YtcepognpbeahhaaGreatDoor.Kc
