/-
  What the statement's proof rests on, part 31.
  Conditions: each theorem's own.
-/
import Derived.Test.YtcnjpmcelihknaaGreatDoorV30
import Derived.Maps.RangeWalk
import Derived.Test.YtcnjpmcelihknaaGreatDoorV15
open Go.Lib (hid)
namespace Go.Proofs.YtcnjpmcelihknaaGreatDoor.Kc
open Go.RowKit Go.Maps
theorem mergeSort_perm_eq {l l':List Int} (h:l.Perm l'):l.mergeSort (fun x y=>decide (x<=y))=l'.mergeSort (fun x y=>decide (x<=y)):=by
 have hs:∀m:List Int,(m.mergeSort (fun x y=>decide (x<=y))).Pairwise (fun a b=>decide (a<=b)=true):=fun m =>
  List.pairwise_mergeSort (fun a b c h1 h2=>by simp only [decide_eq_true_eq] at h1 h2 ⊢;omega) (fun a b=>by simp only [Bool.or_eq_true,decide_eq_true_eq];omega) m
 exact List.Perm.eq_of_pairwise (fun a b _ _ h1 h2=>by simp only [decide_eq_true_eq] at h1 h2;omega) (hs l) (hs l') (((List.mergeSort_perm l _).trans h).trans (List.mergeSort_perm l' _).symm)
theorem sortRow {w:World} {base n:Nat} {v:Value} {zs:List Int} (h:w.ownsRow base 3 1 v n (zs.map (Value.int .i64))) (hn:n<=1048576) :
  Calls Tryz.prog 158 #[v] w fun r w'=>r=.returned (.tuple #[])/\w'.ownsRow base 3 1 v n ((zs.mergeSort fun x y=>decide (x<=y)).map (Value.int .i64))/\w.grownBy w' v.ownBlock:=by
 have hl:zs.length=n:=by have:=h.1;simpa using this
 rcases h.2 with ⟨rfl,h0⟩ | ⟨g,cap',cur,rfl,hbase,hb,hnc,hcm,hcs,ht⟩
 ·have hz:zs=[]:=List.eq_nil_of_length_eq_zero (by omega)
  subst hz
  refine (Tryz.slices_Sort_int_none none 0 w).mono ?_
  rintro r w' ⟨rfl,rfl⟩
  exact ⟨rfl,by simpa using h,⟨rfl,rfl,rfl,Nat.le_refl _,fun _ _ _=>rfl⟩⟩
 ·subst hl
  have hH:=holds_of_blockI (ss:=zs) hb (by rw [Nat.mul_one] at ht;exact ht)
  refine (Tryz.slices_Sort_int g 0 cap' zs w hH (lt_of_block hb) (by omega)).mono ?_
  rintro r w' ⟨rfl,q,os,rfl⟩
  exact ⟨rfl,ownsRow_sortedI (by simp) hbase hb hnc hcm hcs,grownBy_sortedI _⟩
section
variable {V:VolK} {w w':World} {g:Cg} {most:Nat} {l:List En} {x:V.σ} {k:Nat}
def fFlush (e:En):Bool:=e.dirty && decide (e.pins=0)
theorem takeF (h:Ca V w g most l) {e:En} (he:e∈l):Calls Tryz.prog 168 #[.pointer (some ⟨e.p,0,none⟩)] w fun r w'=>r=.returned (.bool (fFlush e))/\w=w':=by
 have e128:=h.e128 he
 have e129:=h.e129 he
 clear h
 unfold fFlush
 cases hd:e.dirty with
 | false =>
  rw [hd] at e128
  clear hd
  go_enter Tryz.func168,Tryz.ntmps168
  go_wp2
  go_ret
  exact ⟨rfl,rfl⟩
 | true =>
  rw [hd] at e128
  clear hd
  by_cases hp:e.pins=0
  ·rw [decide_eq_true hp]
   rw [hp] at e129
   clear hp
   go_enter Tryz.func168,Tryz.ntmps168
   go_wp2
   go_ret
   exact ⟨rfl,rfl⟩
  ·rw [decide_eq_false hp]
   have q:((e.pins:Int) == 0)=false:=by rw [beq_eq_false_iff_ne];omega
   clear hp
   go_enter Tryz.func168,Tryz.ntmps168
   go_wp2
   go_ret
   exact ⟨rfl,rfl⟩
structure Gat (f:En->Bool) (l:List En) (D:DataW Unit) (left:Lit->Bool) (ks:List Int):Prop where
 nd:ks.Nodup
 mem:∀y,y∈ks↔∃e∈l,(e.k:Int)=y/\f e=true/\left (.int .i64 y)=false
 sub:∀z,left z=true->Maps.has D z=true
theorem Gat.start (f:En->Bool) (l:List En) (D:DataW Unit) (hf:∀x:Int,Maps.has D (.int .i64 x)=(ptrs l x).isSome/\D.atKey (.int .i64 x) (ptrD none)=ptrD (ptrs l x)) (hn:(l.map En.k).Nodup):Gat f l D (Maps.has D) [] :=
 ⟨List.nodup_nil,fun y=>(by
  constructor
  ·intro h;exact absurd h (by simp)
  ·rintro ⟨e,he,rfl,_,h0⟩
   rw [(hf _).1] at h0
   unfold ptrs at h0
   rw [finds_mem hn he] at h0
   exact absurd h0 (by simp)),fun _ h=>h⟩
theorem Gat.step {f:En->Bool} {D:DataW Unit} {left:Lit->Bool} {ks:List Int} (h:Gat f l D left ks) (hn:(l.map En.k).Nodup) {e:En} (he:e∈l) (hl:left (.int .i64 (e.k:Int))=true) :
  Gat f l D (fun z=>left z && !z.sameKey (.int .i64 (e.k:Int))) (if f e then ks++[(e.k:Int)] else ks):=by
 have hnot:(e.k:Int) ∉ ks:=fun hm=>by
  obtain ⟨_,_,_,_,h0⟩:=(h.mem _).1 hm
  rw [hl] at h0
  cases h0
 have hsk:∀y:Int,(Lit.int .i64 y).sameKey (.int .i64 (e.k:Int))=decide (y=(e.k:Int)):=fun y=>by simp [Lit.sameKey]
 refine ⟨?_,fun y=>?_,fun z hz=>h.sub z (by simp only [Bool.and_eq_true] at hz;exact hz.1)⟩
 ·split
  ·rw [List.nodup_append]
   exact ⟨h.nd,by simp,fun a ha b hb=>by rw [List.mem_singleton.1 hb];intro e2;exact hnot (e2▸ha)⟩
  ·exact h.nd
 ·simp only [hsk]
  by_cases hy:y=(e.k:Int)
  ·subst hy
   constructor
   ·intro hm
    refine ⟨e,he,rfl,?_,by simp⟩
    cases hfe:f e with
    | true=>rfl
    | false =>
     rw [hfe] at hm
     exact absurd hm hnot
   ·rintro ⟨e2,he2,hk2,hf2,_⟩
    rw [one_of_key hn he2 he (by omega)] at hf2
    rw [hf2]
    simp
  ·have h1:(y∈if f e=true then ks++[(e.k:Int)] else ks)↔y∈ks:=by
    split
    ·simp [hy]
    ·rfl
   rw [h1,h.mem y]
   simp [hy]
theorem Gat.all {f:En->Bool} {D:DataW Unit} {left:Lit->Bool} {ks:List Int} (h:Gat f l D left ks) (hn:(l.map En.k).Nodup) (hl:∀z,left z=false):ks.mergeSort (fun x y=>decide (x<=y))=risesE f l:=by
 refine mergeSort_perm_eq ((List.perm_ext_iff_of_nodup h.nd ?_).2 fun y=>?_)
 ·have:((l.filter f).map En.k).Nodup:=(List.Sublist.map _ List.filter_sublist).nodup hn
  rw [List.Nodup,List.pairwise_map] at this ⊢
  exact this.imp fun h1 h2=>h1 (by omega)
 ·rw [h.mem y]
  simp only [List.mem_map,List.mem_filter]
  constructor
  ·rintro ⟨e,he,hk,hf,_⟩;exact ⟨e,⟨he,hf⟩,hk⟩
  ·rintro ⟨e,⟨he,hf⟩,hk⟩;exact ⟨e,he,hk,hf,hl _⟩
theorem Gat.few {f:En->Bool} {D:DataW Unit} {left:Lit->Bool} {ks:List Int} (h:Gat f l D left ks):ks.length<=l.length:=by
 have:=nodup_len ks (l.map fun e=>(e.k:Int)) h.nd fun y hy=>by
  obtain ⟨e,he,hk,_⟩:=(h.mem y).1 hy
  exact List.mem_map.2 ⟨e,he,hk⟩
 simpa using this
theorem ranges_row {wr:World} {b r n q:Nat} {D:DataW Unit} {left:Lit->Bool} {cnt:Nat} {base:Nat} {v:Value} {xs:List Value} (h:wr.ranges Tryz.prog 3 ptrR b r n D left cnt) (ho:wr.ownsRow base 3 1 v q xs):v.ownBlock≠some r:=by
 intro e
 obtain ⟨es,clock,since,seen,c0,_,_,_,_,hr,_⟩:=h
 rcases ho.2 with ⟨rfl,_⟩ | ⟨gg,cap,cur,rfl,_,hh,_⟩
 ·cases e
 ·simp only [Value.ownBlock,Option.some.injEq] at e
  rw [e,hr] at hh
  cases hh
set_option maxRecDepth 20000 in
theorem cGather (h:Ca V w g most l) (f:En->Bool) (F:Nat) (hen:∀args W,(callFunc F args).run Tryz.prog W=.ok (.enter F args) W)
  (hF:∀W,Ca V W g most l->∀e∈l,Calls Tryz.prog F #[.pointer (some ⟨e.p,0,none⟩)] W fun r w'=>r=.returned (.bool (f e))/\W=w') :
  Calls Tryz.prog 167 #[.pointer (some ⟨g.c,0,none⟩),.func (.func F) #[] #[]] w fun r w'=>∃v,r=.returned v /\
   w'.ownsRow w.heap.size 3 1 v (risesE f l).length ((risesE f l).map (Value.int .i64))/\Below w.heap.size w w':=by
 obtain ⟨i0,hi,hz0,hz1,hz2⟩:=info_parts info_int
 have c2:=h.c2
 obtain ⟨Dm,hown,hf⟩:=h.map
 have hglt:=hown.lt
 have HH:=hid h
 have HF:=hid hF
 have HD:=hid hf
 have hM:l.length<=1024:=Nat.le_trans h.len h.mostM
 have hstart:=hid (Gat.start f l Dm hf h.keys)
 clear h hF hf
 go_enter Tryz.func167,Tryz.ntmps167
 go_wp2_with (first | (at_range;refine wpList_range_own _ rfl _ 138 rfl 3 208 Sh.lawInt Tryz.underlying138 ptrR g.m 1024 Dm rfl hown ?_;intro w0 hrg0 hg0 hs0) | go_in)
 go_frame
 go_loopw [5] (fun s5 wr=>∃left cnt ks,wr.ranges Tryz.prog 3 ptrR g.m w.heap.size 1024 Dm left cnt/\Below w.heap.size w wr/\wr.ownsRow w.heap.size 3 1 s5 ks.length (ks.map (Value.int .i64))/\Hid (Gat f l Dm left ks)) (fun _ wr=>wr.rangeLeft g.m w.heap.size)
 case atStart=>exact ⟨_,_,[],hrg0,⟨hg0.os,hg0.tape,hg0.output,hg0.size,fun b hb=>hg0.block b hb (by simp)⟩,⟨rfl,.inl ⟨rfl,rfl⟩⟩,hstart⟩
 case round =>
  obtain ⟨left,cnt,ks,hrg,hbel,hrow,hgat⟩:=hrel
  have hfew:=hgat.out.few
  have hne:=ranges_row hrg hrow
  clear hrg0 hg0 hs0 hown c2 hstart
  go_wp2_with (first
   | (at_next;refine wpList_next_ranges _ rfl _ rfl 3 Sh.lawInt ptrR (Value.int .i64) ptrV (fun key kl hk=>by obtain ⟨q,e1,_⟩:=Maps.keyOf_int_inv Tryz.underlying3 hk;exact ⟨q,e1⟩) (fun v y hv=>by obtain ⟨q,e1,_⟩:=ptrR_inv hv;exact ⟨q,e1⟩) g.m w.heap.size 1024 Dm left cnt rfl hrg ?_ ?_)
   | fail)
  ·intro hc0 hl0
   have HG:=hid (And.intro hl0 (And.intro hbel hrow))
   have HSO:=hid (sortRow hrow (by omega))
   clear hl0 hbel hrow hrg hc0 hne
   go_wp2_with fail
   refine HSO.out.mono ?_
   rintro r w2 ⟨rfl,hrow2,hg2⟩
   have H2:=hid (And.intro hrow2 hg2)
   clear hrow2 hg2 HSO
   go_wp2
   go_ret
   obtain ⟨hl0,hbel,hrow⟩:=HG.out
   obtain ⟨hrow2,hg2⟩:=H2.out
   have ha:=hgat.out.all HH.out.keys hl0
   refine ⟨_,rfl,?_,hbel.grown hg2 hbel.size (fun b hb=>(hrow.lt b hb).1)⟩
   rw [<- ha,List.length_mergeSort]
   exact hrow2
  ·intro y c kl z1 z2 w1 cnt1 hkey hlk hR hat hrg1 hlt hg1 hs1 hen2
   obtain ⟨y2,e1,rfl,_⟩:=Maps.keyOf_int_inv Tryz.underlying3 hkey
   injection e1 with _ e1
   subst e1
   obtain ⟨c2,e2,ez⟩:=ptrR_inv hR
   have ez1:z1=ptrD c2:=congrArg Prod.fst ez
   subst ez1
   have hcc:ptrV c=ptrV c2:=e2
   have hhas:=hgat.out.sub _ hlk
   rw [(HD.out y).1] at hhas
   have hat2:=hat (ptrD none)
   rw [(HD.out y).2] at hat2
   have hc2:ptrs l y=c2:=ptrD_inj hat2
   rcases hfe:finds l y with _ | e
   ·unfold ptrs at hhas
    rw [hfe] at hhas
    exact absurd hhas (by simp)
   ·obtain ⟨he,hek⟩:=finds_some hfe
    have hcp:ptrV c=.pointer (some ⟨e.p,0,none⟩):=by
     rw [hcc,<- hc2]
     unfold ptrs
     rw [hfe]
     rfl
    have hb1:Below w.heap.size w w1:=hbel.grown hg1 hbel.size (fun b hb=>by injection hb with hb;omega)
    have hrow1:=hrow.kept hg1 (.inr hne)
    have hgat2:=hid (hgat.out.step HH.out.keys he (by rw [hek];exact hlk))
    rw [hek] at hgat2
    have HT:=hid (HF.out w1 (HH.out.grown hb1) e he)
    rw [hcp] at hen2
    rw [hcp]
    have H1:=hid (And.intro hrg hrg1)
    have HBL:=hid hb1
    clear hs1 ez hhas hat2 hc2 hcc hR hkey hfe hek hat hcp hlk hrow hbel hne hgat hg1 e2 hrg he
    cases hfe2:f e with
    | false =>
     rw [hfe2] at HT hgat2
     clear hfe2
     go_wp2_with fail
     refine HT.out.mono ?_
     rintro r w2 ⟨rfl,rfl⟩
     go_wp2
     go_roundw
     case rel=>exact ⟨_,cnt1,ks,hrg1,HBL.out,hrow1,hgat2⟩
     case measure =>
      rw [H1.out.2.left_eq,H1.out.1.left_eq]
      omega
    | true =>
     rw [hfe2] at HT hgat2
     clear hfe2
     have hglt1:g.m<w1.heap.size:=Nat.lt_of_lt_of_le hglt hb1.size
     clear hb1
     go_wp2_with fail
     refine HT.out.mono ?_
     rintro r w2 ⟨rfl,rfl⟩
     go_wp2_with (first
      | (at_builtin;go_must (refine wpList_append_lies _ rfl _ _ 22 rfl w.heap.size 3 i0 _ 1 8 Tryz.underlying22 hi hz0 hz1 hz2 rfl (by decide) _ ks.length _ rfl (hrow1.alloc _) ⟨w1.heap.size,0,none⟩ 1 1 [.int .i64 y] rfl rfl (cells1_new _ _ _) (one1 _) (by decide) (by unfold maxLen;omega) (by omega) (by simp;exact Nat.le_succ_of_le HBL.out.size) _ rfl ?_;intro g3 cap3 w3 hown3 hgrow3 hlie _))
      | go_in)
     go_roundw
     case rel =>
      have hne1:=ranges_row hrg1 hrow1
      refine ⟨_,cnt1,ks++[y],(hrg1.alloc _).kept hgrow3 (fun e2=>by
       have:=(hrow1.lt _ e2.symm).1
       omega) (fun e2=>hne1 e2.symm),(HBL.out.alloc HBL.out.size _).grown hgrow3 (by simp;exact Nat.le_succ_of_le HBL.out.size) (fun b hb=>(hrow1.lt b hb).1),?_,hgat2⟩
      rw [List.length_append,List.map_append]
      exact hown3
     case measure =>
      have h3:=(hrg1.alloc (.cells #[Value.int .i64 y] 3)).kept hgrow3 (fun e2=>by
       have:=(hrow1.lt _ e2.symm).1
       omega) (fun e2=>ranges_row hrg1 hrow1 e2.symm)
      rw [h3.left_eq,H1.out.1.left_eq]
      omega
end
section
variable {V:VolK} {w w':World} {g:Cg} {most:Nat} {l:List En} {x:V.σ} {k:Nat}
theorem mem_rises {f:En->Bool} {y:Int} (h:y∈risesE f l):∃e∈l,(e.k:Int)=y:=by
 unfold risesE at h
 rw [List.mem_mergeSort] at h
 obtain ⟨e,he,hk⟩:=List.mem_map.1 h
 exact ⟨e,(List.mem_filter.1 he).1,hk⟩
theorem rises_few {f:En->Bool}:(risesE f l).length<=l.length:=by
 unfold risesE
 rw [List.length_mergeSort,List.length_map]
 exact List.length_filter_le _ _
set_option maxRecDepth 20000 in
theorem cFlush (h:Cav V w g most l x (k+1+(risesE fFlush l).length)):Calls Tryz.prog 99 #[.pointer (some ⟨g.c,0,none⟩)] w fun r w' =>
  ∃(y:Int) (l':List En) (x':V.σ),r=.returned (.int .i64 y)/\FlushR V l x y l' x'/\Cav V w' g most l' x' k/\Sh.Moves (AllC V x g l) w (AllC V x' g l') w':=by
 have HN:=hid (cNone h.ca)
 have hen:=enters_fn (f:=168) Tryz.func168 (by kernel_rfl) rfl
 have HG:=hid (cGather h.ca fFlush 168 hen (fun W hW e he=>takeF hW he))
 have HH:=hid h
 have hM:(risesE fFlush l).length<=1024:=Nat.le_trans rises_few (Nat.le_trans h.ca.len h.ca.mostM)
 have HKS:=hid (fun y (hy:y∈risesE fFlush l)=>mem_rises hy)
 have HFR:Hid (∀(l':List En) (x1 x':V.σ) (y:Int),WbsR V (risesE fFlush l) l x 0 l' x1->V.fl x1 y x'->FlushR V l x y l' x'):=hid fun l' x1 x' y a b=>.all l' x1 x' y a b
 have HFN:Hid (∀(y:Int) (l':List En) (x':V.σ),WbsR V (risesE fFlush l) l x y l' x'->y≠0->FlushR V l x y l' x'):=hid fun y l' x' a b=>.no y l' x' a b
 clear h hen
 generalize hks:risesE fFlush l=ks at *
 clear hks
 go_enter Tryz.func99,Tryz.ntmps99
 go_wp2_with fail
 refine HN.out.mono ?_
 rintro r w0 ⟨rfl,rfl⟩
 go_wp2_with fail
 refine HG.out.mono ?_
 rintro r w1 ⟨v,rfl,hrow,hb1⟩
 obtain ⟨A,cp,hv⟩:=Sh.own_shape2 hrow
 subst hv
 have HW1:=hid hb1
 have hrel0:Hid (∃lj xj,(∀y l' x',WbsR V (ks.drop 0) lj xj y l' x'->WbsR V ks l x y l' x')/\Cav V w1 g most lj xj (k+1+(ks.length-0))/\Sh.Moves (AllC V x g l) w (AllC V xj g lj) w1/\lj.map En.k=l.map En.k /\
   w1.ownsRow w.heap.size 3 1 (.slice A ks.length cp) ks.length (ks.map (Value.int .i64))/\∀b,(Value.slice A ks.length cp).ownBlock=some b->¬AllC V xj g lj b) :=
  hid ⟨l,x,fun _ _ _ h=>h,HH.out.grown hb1,⟨(only_below hb1).mono (fun _ e=>e.elim),fun b e=>.inl e⟩,rfl,hrow,fun b hb e=>by
   have h1:=(hrow.lt b hb).1
   have h2:=HH.out.lt e
   omega⟩
 clear hrow hb1 HG HN
 go_wp2
 go_loopw [11] (fun s wr=>∃j:Nat,j<=ks.length/\s=.int .i64 j/\Hid (∃lj xj,(∀y l' x',WbsR V (ks.drop j) lj xj y l' x'->WbsR V ks l x y l' x')/\Cav V wr g most lj xj (k+1+(ks.length-j))/\Sh.Moves (AllC V x g l) w (AllC V xj g lj) wr/\lj.map En.k=l.map En.k /\
   wr.ownsRow w.heap.size 3 1 (.slice A ks.length cp) ks.length (ks.map (Value.int .i64))/\∀b,(Value.slice A ks.length cp).ownBlock=some b->¬AllC V xj g lj b)) (fun s _=>ks.length-(intOf s).toNat)
 case atStart=>exact ⟨0,Nat.zero_le _,rfl,hrel0⟩
 case round =>
  obtain ⟨j,hj,rfl,hrel⟩:=hrel
  clear hrel0
  by_cases hlt:j<ks.length
  ·obtain ⟨lj,xj,hw,hc,hmv,hkeys,hrow,hno⟩:=hrel.out
   obtain ⟨gb,cp2,hv,_,_,_⟩:=Sh.own_form hrow (by omega)
   injection hv with hv _ hv3
   subst hv
   have hget:ks[j]?=some ks[j]:=List.getElem?_eq_getElem hlt
   have hcell:wr.cell? ⟨gb,j,none⟩=some (.int .i64 ks[j]):=Sh.cell_at hrow (by rw [List.getElem?_map,hget];rfl)
   obtain ⟨e0,he0,hk0⟩:=HKS.out ks[j] (List.getElem_mem hlt)
   obtain ⟨e,he,hke⟩:∃e∈lj,e.k=e0.k:=by
    have:e0.k∈lj.map En.k:=by rw [hkeys];exact List.mem_map_of_mem he0
    obtain ⟨z,hz,h2⟩:=List.mem_map.1 this
    exact ⟨z,hz,h2⟩
   have hek:(e.k:Int)=ks[j]:=by rw [hke];exact hk0
   have hdrop:ks.drop j=ks[j] :: ks.drop (j+1):=List.drop_eq_getElem_cons hlt
   have hbud:k+1+(ks.length-j)=(k+1+(ks.length-(j+1)))+1:=by omega
   rw [hbud] at hc
   have HWB:=hid (cWB hc he)
   rw [hek] at HWB
   rw [hdrop] at hw
   have hfe:=finds_mem hc.ca.keys he
   rw [hek] at hfe
   have HX:=hid (And.intro hw (And.intro hc (And.intro hmv (And.intro hkeys (And.intro hrow (And.intro hno (And.intro hfe he)))))))
   clear hw hc hmv hkeys hrow hno hrel hfe he hek hdrop hbud he0 hk0 hke hv3 hget
   generalize ks[j]=kj at *
   go_wp2_with fail
   refine HWB.out.mono ?_
   rintro r w2 ⟨y,x',e',rfl,hwb,hst⟩
   have H2:=hid (And.intro hwb hst)
   clear hwb hst HWB hcell
   by_cases hy:y=0
   ·subst hy
    go_wp2
    go_roundw
    case rel =>
     obtain ⟨hw,hc,hmv,hkeys,hrow,hno,hfe,he⟩:=HX.out
     obtain ⟨hwb,hst⟩:=H2.out
     refine ⟨j+1,by omega,by go_num,hid ⟨putE lj e',x',fun y l' x2 h=>hw y l' x2 (.next kj _ lj xj e e' x' y l' x2 hfe hwb h),hst.1,hmv.trans hst.2,by rw [putE_keys];exact hkeys,Sh.same_row hrow (fun b hb=>hst.2.1.block b (hrow.lt b hb).2 (hno b hb)),fun b hb e2=>?_⟩⟩
     rcases hst.2.2 b e2 with q | q
     ·exact hno b hb q
     ·have:=(hrow.lt b hb).2
      omega
    case measure=>simp [intOf];omega
   ·have q:(y != 0)=true:=by simpa using hy
    have HY:=hid hy
    clear hy
    go_wp2
    go_ret
    obtain ⟨hw,hc,hmv,hkeys,hrow,hno,hfe,he⟩:=HX.out
    obtain ⟨hwb,hst⟩:=H2.out
    have hee:=hwb.refused HY.out
    subst hee
    rw [putE_self hc.ca.keys he] at hst
    exact ⟨y,lj,x',rfl,HFN.out y lj x' (hw y lj x' (.no kj _ lj xj e' y x' hfe hwb HY.out)) HY.out,hst.1.less (by omega),hmv.trans hst.2⟩
  ·obtain rfl:j=ks.length:=by omega
   obtain ⟨lj,xj,hw,hc,hmv,hkeys,hrow,hno⟩:=hrel.out
   rw [List.drop_length] at hw
   rw [Nat.sub_self,Nat.add_zero] at hc
   have c0:=hc.ca.c0
   have HF:=hid (V.flush hc.vol)
   have HX:=hid (And.intro hw (And.intro hc hmv))
   clear hw hc hmv hkeys hrow hno hrel
   go_wp2_with fail
   refine HF.out.mono ?_
   rintro r w2 ⟨y,x',rfl,hfl,hi,hm⟩
   have H2:=hid (And.intro hfl (And.intro hi hm))
   clear hfl hi hm HF c0
   go_wp2
   go_ret
   obtain ⟨hw,hc,hmv⟩:=HX.out
   obtain ⟨hfl,hi,hm⟩:=H2.out
   have hmm:=hc.moved hi hm
   exact ⟨y,lj,x',rfl,HFR.out lj xj x' y (hw 0 lj xj (.nil lj xj)) hfl,hmm.1,hmv.trans hmm.2⟩
end
section
variable {V:VolK} {w w':World} {g:Cg} {most:Nat} {l:List En} {x:V.σ} {k:Nat}
theorem cNew (h:V.is w x k) (hm1:1<=most) (hM:most<=1024):Calls Tryz.prog 28 #[.pointer (some ⟨V.v,0,none⟩),.int .i64 (most:Int)] w fun r w' =>
  ∃g:Cg,r=.returned (.tuple #[.pointer (some ⟨g.c,0,none⟩),.int .i64 0])/\Cav V w' g most [] x k/\Sh.Moves (V.own x) w (AllC V x g []) w':=by
 have hb:Below w.heap.size w ((w.alloc (.map #[] 0)).alloc (.cells #[.pointer (some ⟨V.v,0,none⟩),.int .i64 (most:Int),.map (some w.heap.size),.slice none 0 0] 140)):=((Below.refl _ _).alloc (Nat.le_refl _) _).alloc (by simp) _
 have HH:=hid (And.intro h (And.intro hm1 (And.intro hM hb)))
 have q1:decide ((most:Int)<1)=false:=by simp;omega
 have q2:decide ((most:Int)>1024)=false:=by simp;omega
 have hmm:=@run_makeMap Tryz.prog
 clear h hm1 hM hb
 go_enter Tryz.func28,Tryz.ntmps28
 go_wp2
 go_ret2
 obtain ⟨h,hm1,hM,hb⟩:=HH.out
 have hlt:∀b,V.own x b->b<w.heap.size:=V.lt h
 refine ⟨⟨w.heap.size+1,w.heap.size,.slice none 0 0⟩,by simp,⟨⟨hm1,hM,?_,⟨rfl,.inl ⟨rfl,rfl⟩⟩,Nat.zero_le _,?_,fun e he=>absurd he (by simp),fun e he=>absurd he (by simp),fun e he=>absurd he (by simp),fun e he=>absurd he (by simp),List.nodup_nil,List.nodup_nil⟩,V.stays h (only_below hb) (fun _ e=>e.elim),fun b hb2 e=>?_⟩,(only_below hb).mono (fun _ e=>e.elim),fun b hb2=>?_⟩
 ·have:=heap_alloc_new (w.alloc (.map #[] 0)) (.cells #[.pointer (some ⟨V.v,0,none⟩),.int .i64 (most:Int),.map (some w.heap.size),.slice none 0 0] 140)
  simpa using this
 ·have h1:PMap (w.alloc (.map #[] 0)) w.heap.size 0 (ptrs []):=PMap.made w
  exact (h1.same (Below.heap_alloc _ _ _ h1.lt)).mono (Nat.zero_le _)
 ·have h1:=hlt b hb2
  rcases e with e | e | e | ⟨_,he,_⟩
  ·simp only at e;omega
  ·simp only at e;omega
  ·cases e
  ·exact absurd he (by simp)
 ·rcases hb2 with e | e | e | e | ⟨_,he,_⟩
  ·exact .inl e
  ·right;simp only at e;omega
  ·right;simp only at e;omega
  ·cases e
  ·exact absurd he (by simp)
/-! ### no cache -/
end
open Go.Proofs.YtcnjpmcelihknaaGreatDoor.Kj (fset less1 StoK)
structure Hc (V:VolK) (cont:V.σ->Nat->Sh.Bs):Prop where
 rd:∀{x m y X x'},V.rd x m y X x'->y=0/\X=cont x m/\∀j,cont x' j=cont x j
 wr:∀{x m b y x'},V.wr x m b y x'->y=0/\∀j,j<V.n->cont x' j=if j=m then b else cont x j
 fl:∀{x y x'},V.fl x y x'->y=0/\∀j,cont x' j=cont x j
 sec:∀{w x k} (m:Nat),V.is w x k->m<V.n->Sh.Sec (cont x m)
def seeC (V:VolK) (cont:V.σ->Nat->Sh.Bs) (l:List En) (x:V.σ) (j:Nat):Sh.Bs:=((finds l (j:Int)).map En.d).getD (cont x j)
structure Ci (V:VolK) (cont:V.σ->Nat->Sh.Bs) (l:List En) (x:V.σ) (f:Nat->Sh.Bs):Prop where
 pins:∀e∈l,e.pins=0
 clean:∀e∈l,e.dirty=false->e.d=cont x e.k
 sees:∀j,j<V.n->seeC V cont l x j=f j
 lows:∀e∈l,e.k<V.n
 keys:(l.map En.k).Nodup
section
variable {V:VolK} {cont:V.σ->Nat->Sh.Bs} {l l':List En} {x x':V.σ} {f:Nat->Sh.Bs} {most:Nat} {y n:Int} {m:Nat} {b X:Sh.Bs}
theorem see_kept (hk:(l.map En.k).Nodup) {e:En} (he:e∈l):seeC V cont l x e.k=e.d:=by
 unfold seeC;rw [finds_mem hk he];rfl
theorem see_none (h:finds l (m:Int)=none):seeC V cont l x m=cont x m:=by unfold seeC;rw [h];rfl
theorem Ci.at_ (h:Ci V cont l x f) {e:En} (he:e∈l):f e.k=e.d:=by rw [<- h.sees _ (h.lows e he)];exact see_kept h.keys he
theorem Ci.cont_same (h:Ci V cont l x f) (hc:∀j,cont x' j=cont x j):Ci V cont l x' f :=
 ⟨h.pins,fun e he hd=>by rw [hc];exact h.clean e he hd,fun j hj=>by rw [<- h.sees j hj];unfold seeC;rw [hc],h.lows,h.keys⟩
theorem Hc.wb (hV:Hc V cont) {e e':En} (hw:WbR V x e y x' e'):y=0/\(e'=e\/e'={ e with dirty:=false })/\e'.dirty=false/\((e.dirty=false/\x'=x)\/∀j,j<V.n->cont x' j=if j=e.k then e.d else cont x j):=by
 cases hw with
 | clean h=>exact ⟨rfl,.inl rfl,h,.inl ⟨h,rfl⟩⟩
 | no _ _ _ h hne=>exact absurd (hV.wr h).1 hne
 | done _ _ h=>exact ⟨rfl,.inr rfl,rfl,.inr (hV.wr h).2⟩
theorem Ci.wb_cont (hV:Hc V cont) (h:Ci V cont l x f) {e e':En} (he:e∈l) (hw:WbR V x e y x' e'):∀j,j<V.n->cont x' j=if j=e.k then e.d else cont x j:=by
 rcases (hV.wb hw).2.2.2 with ⟨hd,rfl⟩ | h2
 ·intro j _
  split
  ·rename_i hj;rw [hj];exact (h.clean e he hd).symm
  ·rfl
 ·exact h2
theorem Ci.drop (hV:Hc V cont) (h:Ci V cont l x f) {e e':En} (he:e∈l) (hw:WbR V x e y x' e'):Ci V cont (dropE l e.k) x' f:=by
 have hc:=h.wb_cont hV he hw
 refine ⟨fun z hz=>h.pins z (List.mem_filter.1 hz).1,fun z hz hd=>?_,fun j hj=>?_,fun z hz=>h.lows z (List.mem_filter.1 hz).1,(List.Sublist.map _ List.filter_sublist).nodup h.keys⟩
 ·obtain ⟨h1,h2⟩:=List.mem_filter.1 hz
  have h3:z.k≠e.k:=by simpa using h2
  rw [hc z.k (h.lows z h1),if_neg h3]
  exact h.clean z h1 hd
 ·rw [<- h.sees j hj]
  unfold seeC
  rw [finds_dropE h.keys]
  by_cases hj2:j=e.k
  ·subst hj2
   rw [if_pos rfl,finds_mem h.keys he,Option.map_none,Option.map_some,Option.getD_none,Option.getD_some,hc _ hj,if_pos rfl]
  ·rw [if_neg (fun e2=>hj2 (by omega)),hc j hj,if_neg hj2]
theorem Ci.room (hV:Hc V cont) (h:Ci V cont l x f) (h1:1<=most) (hr:RoomR V most l x y l' x'):y=0/\Ci V cont l' x' f/\∀z∈l',z∈l:=by
 cases hr with
 | free _=>exact ⟨rfl,h,fun _ hz=>hz⟩
 | full hn hp =>
  rcases l with _ | ⟨e,t⟩
  ·exact absurd (by simp;omega) hn
  ·exact absurd (h.pins e (List.mem_cons_self ..)) (hp e (List.mem_cons_self ..))
 | no e _ _ _ _ _ hw hne=>exact absurd (hV.wb hw).1 hne
 | left e e' _ _ he _ hw=>exact ⟨rfl,h.drop hV (List.mem_of_getElem? he) hw,fun z hz=>(List.mem_filter.1 hz).1⟩
theorem Ci.snoc (h:Ci V cont l x f) {e:En} (hk:∀z∈l,z.k≠e.k) (hp:e.pins=0) (hl:e.k<V.n) (hd:e.dirty=false->e.d=cont x e.k):Ci V cont (l++[e]) x (fset f e.k e.d):=by
 refine ⟨fun z hz=>?_,fun z hz=>?_,fun j hj=>?_,fun z hz=>?_,?_⟩
 ·rcases List.mem_append.1 hz with hz | hz
  ·exact h.pins z hz
  ·rw [List.mem_singleton.1 hz];exact hp
 ·rcases List.mem_append.1 hz with hz | hz
  ·exact h.clean z hz
  ·rw [List.mem_singleton.1 hz];exact hd
 ·unfold seeC
  rw [finds_snoc hk]
  by_cases hj2:j=e.k
  ·rw [if_pos (by omega),hj2];exact (Go.Proofs.YtcnjpmcelihknaaGreatDoor.Kj.fset_same f _ _).symm
  ·rw [if_neg (fun e2=>hj2 (by omega)),Go.Proofs.YtcnjpmcelihknaaGreatDoor.Kj.fset_other f _ hj2];exact h.sees j hj
 ·rcases List.mem_append.1 hz with hz | hz
  ·exact h.lows z hz
  ·rw [List.mem_singleton.1 hz];exact hl
 ·rw [List.map_append,List.nodup_append]
  refine ⟨h.keys,by simp,?_⟩
  intro a ha c hc e2
  obtain ⟨z,hz,rfl⟩:=List.mem_map.1 ha
  simp at hc
  exact hk z hz (by rw [e2,hc])
theorem Ci.use (h:Ci V cont l x f) {e e2:En} (he:e∈l) (hk:e2.k=e.k) (hp:e2.pins=0) (hd:e2.dirty=false->e2.d=cont x e2.k):Ci V cont (useE l e2) x (fset f e.k e2.d):=by
 have hm:∀z∈dropE l e2.k,z∈l/\z.k≠e.k:=fun z hz=>by
  obtain ⟨h1,h2⟩:=List.mem_filter.1 hz
  exact ⟨h1,by rw [<- hk];simpa using h2⟩
 refine ⟨fun z hz=>?_,fun z hz=>?_,fun j hj=>?_,fun z hz=>?_,?_⟩
 ·rcases List.mem_append.1 hz with hz | hz
  ·exact h.pins z (hm z hz).1
  ·rw [List.mem_singleton.1 hz];exact hp
 ·rcases List.mem_append.1 hz with hz | hz
  ·exact h.clean z (hm z hz).1
  ·rw [List.mem_singleton.1 hz];exact hd
 ·unfold seeC useE
  rw [finds_snoc (fun z hz=>by rw [hk];exact (hm z hz).2),finds_dropE h.keys]
  by_cases hj2:j=e.k
  ·rw [if_pos (by omega),hj2];exact (Go.Proofs.YtcnjpmcelihknaaGreatDoor.Kj.fset_same f _ _).symm
  ·rw [if_neg (fun e2=>hj2 (by omega)),if_neg (fun e2=>hj2 (by omega)),Go.Proofs.YtcnjpmcelihknaaGreatDoor.Kj.fset_other f _ hj2];exact h.sees j hj
 ·rcases List.mem_append.1 hz with hz | hz
  ·exact h.lows z (hm z hz).1
  ·rw [List.mem_singleton.1 hz,hk];exact h.lows e he
 ·unfold useE
  rw [List.map_append,List.nodup_append]
  refine ⟨(List.Sublist.map _ List.filter_sublist).nodup h.keys,by simp,?_⟩
  intro a ha c hc e3
  obtain ⟨z,hz,rfl⟩:=List.mem_map.1 ha
  simp at hc
  exact (hm z hz).2 (by rw [e3,hc,hk])
theorem fset_eq {g:Nat->Sh.Bs} (h:g m=b):fset g m b=g:=by
 funext j
 unfold fset
 split
 ·rename_i e;rw [e,h]
 ·rfl
theorem Ci.keep (hV:Hc V cont) (h:Ci V cont l x f) (h1:1<=most) (hm:m<V.n) (hf:∀z∈l,z.k≠m) (hr:KeepR V most m b l x y l' x') (hb:b=f m) :
  y=0/\Ci V cont l' x' f/\(∀z∈l',z∈l\/z.k=m):=by
 cases hr with
 | no _ _ _ hr hne=>exact absurd (h.room hV h1 hr).1 hne
 | kept l2 _ p hr =>
  obtain ⟨_,h2,h3⟩:=h.room hV h1 hr
  have hk:∀z∈l2,z.k≠(⟨m,p,b,false,0⟩:En).k:=fun z hz=>hf z (h3 z hz)
  have hn:finds l2 (m:Int)=none:=by
   unfold finds
   rw [List.find?_eq_none]
   intro z hz
   have:=hf z (h3 z hz)
   simpa using fun e2:(z.k:Int)=m=>this (by omega)
  have h4:=h2.snoc hk rfl hm (fun _=>by rw [hb,<- h2.sees m hm,see_none hn])
  rw [fset_eq hb.symm] at h4
  exact ⟨rfl,h4,fun z hz=>(List.mem_append.1 hz).elim (fun q=>.inl (h3 z q)) (fun q=>.inr (by rw [List.mem_singleton.1 q]))⟩
theorem Ci.get (hV:Hc V cont) (h:Ci V cont l x f) (h1:1<=most) (hm:m<V.n) (hr:GetR V most (m:Int) l x y X l' x') :
  y=0/\X=f m/\Ci V cont l' x' f/\∀z∈l',(∃e∈l,z.k=e.k)\/z.k=m:=by
 have hfe:∀{y:Int} {l2:List En} {x2:V.σ},finds l (m:Int)=none->FetchR V most m l x y l2 x2->y=0/\Ci V cont l2 x2 f/\∀z∈l2,z∈l\/z.k=m:=fun hn hr=>by
  have hf:∀z∈l,z.k≠m:=fun z hz e=>finds_none hn z hz (by rw [e])
  cases hr with
  | no _ _ _ hrd hne=>exact absurd (hV.rd hrd).1 hne
  | got X x1 _ _ _ hrd hk =>
   obtain ⟨_,rfl,hc⟩:=hV.rd hrd
   have h2:=h.cont_same hc
   exact h2.keep hV h1 hm hf hk (by rw [<- h.sees m hm,see_none hn])
 have huse:∀{l2:List En} {x2:V.σ} {e:En},Ci V cont l2 x2 f->finds l2 (m:Int)=some e->e.d=f m/\Ci V cont (useE l2 e) x2 f:=fun {l2 x2 e} h2 hf=>by
  obtain ⟨he,hk⟩:=finds_some hf
  have hk2:e.k=m:=by omega
  have hd:f e.k=e.d:=h2.at_ he
  have h3:=h2.use he rfl (h2.pins e he) (h2.clean e he)
  rw [fset_eq hd] at h3
  exact ⟨by rw [<- hd,hk2],h3⟩
 have hmem:∀{l2:List En} {e:En},finds l2 (m:Int)=some e->∀z∈useE l2 e,z∈l2:=fun {l2 e} hf z hz=>by
  rcases List.mem_append.1 hz with hz | hz
  ·exact (List.mem_filter.1 hz).1
  ·rw [List.mem_singleton.1 hz];exact (finds_some hf).1
 cases hr with
 | out ho=>exact absurd ⟨by omega,by omega⟩ ho
 | here e _ hf =>
  obtain ⟨h2,h3⟩:=huse h hf
  exact ⟨rfl,h2,h3,fun z hz=>.inl ⟨z,hmem hf z hz,rfl⟩⟩
 | no k _ _ _ hk _ hn hr hne =>
  have hkm:k=m:=by omega
  subst hkm
  exact absurd (hfe hn hr).1 hne
 | got k _ _ e hk _ hn hr hf =>
  have hkm:k=m:=by omega
  subst hkm
  obtain ⟨_,h2,h4⟩:=hfe hn hr
  obtain ⟨h5,h3⟩:=huse h2 hf
  exact ⟨rfl,h5,h3,fun z hz=>(h4 z (hmem hf z hz)).imp (fun q=>⟨z,q,rfl⟩) id⟩
theorem Ci.put (hV:Hc V cont) (h:Ci V cont l x f) (h1:1<=most) (hm:m<V.n) (hb:b.length=128) (hr:PutR V most (m:Int) b l x y l' x') :
  y=0/\Ci V cont l' x' (fset f m b)/\∀z∈l',(∃e∈l,z.k=e.k)\/z.k=m:=by
 cases hr with
 | out ho=>exact absurd ⟨⟨by omega,by omega⟩,hb⟩ ho
 | here e _ _ hf =>
  obtain ⟨he,hk⟩:=finds_some hf
  have hk2:e.k=m:=by omega
  subst hk2
  have h3:=h.use (e2:={ e with d:=b,dirty:=true }) he rfl (h.pins e he) (fun q=>by cases q)
  refine ⟨rfl,h3,fun z hz=>?_⟩
  rcases List.mem_append.1 hz with hz | hz
  ·exact .inl ⟨z,(List.mem_filter.1 hz).1,rfl⟩
  ·exact .inr (by rw [List.mem_singleton.1 hz])
 | no k _ _ _ hk _ _ hn hr hne =>
  have hkm:k=m:=by omega
  subst hkm
  cases hr with
  | no _ _ _ hr hne=>exact absurd (h.room hV h1 hr).1 hne
  | kept _ _ _ _=>exact absurd rfl hne
 | new k _ _ e hk _ _ hn hr hf =>
  have hkm:k=m:=by omega
  subst hkm
  cases hr with
  | no _ _ _ _ hne=>exact absurd rfl hne
  | kept l2 _ p hr =>
   obtain ⟨_,h2,h3⟩:=h.room hV h1 hr
   have hk2:∀z∈l2,z.k≠k:=fun z hz e=>finds_none hn z (h3 z hz) (by rw [e])
   rw [finds_snoc (e:=⟨k,p,b,false,0⟩) hk2,if_pos rfl] at hf
   injection hf with hf
   subst hf
   have h5:=h2.snoc (e:=⟨k,p,b,true,0⟩) hk2 rfl hm (fun q=>by cases q)
   have hu:useE (l2++[⟨k,p,b,false,0⟩]) ({ (⟨k,p,b,false,0⟩:En) with d:=b,dirty:=true })=l2++[⟨k,p,b,true,0⟩]:=by
    unfold useE dropE
    rw [List.filter_append,List.filter_cons_of_neg (by simp),List.filter_nil,List.append_nil,List.filter_eq_self.2 (fun z hz=>by simpa using hk2 z hz)]
   rw [hu]
   exact ⟨rfl,h5,fun z hz=>(List.mem_append.1 hz).elim (fun q=>.inl ⟨z,h3 z q,rfl⟩) (fun q=>.inr (by rw [List.mem_singleton.1 q]))⟩
theorem Ci.putE (hV:Hc V cont) (h:Ci V cont l x f) {e e':En} (he:e∈l) (hw:WbR V x e y x' e'):Ci V cont (putE l e') x' f/\(putE l e').map En.k=l.map En.k:=by
 have hc:=h.wb_cont hV he hw
 obtain ⟨_,hee,hed,_⟩:=hV.wb hw
 have hk:e'.k=e.k:=by rcases hee with rfl | rfl<;>rfl
 have hd:e'.d=e.d:=by rcases hee with rfl | rfl<;>rfl
 have hp:e'.pins=e.pins:=by rcases hee with rfl | rfl<;>rfl
 refine ⟨⟨fun z hz=>?_,fun z hz hdz=>?_,fun j hj=>?_,fun z hz=>?_,by rw [putE_keys];exact h.keys⟩,putE_keys l e'⟩
 ·rcases mem_putE hz with rfl | ⟨q,_⟩
  ·rw [hp];exact h.pins e he
  ·exact h.pins z q
 ·rcases mem_putE hz with rfl | ⟨q,hq⟩
  ·rw [hd,hk,hc _ (h.lows e he),if_pos rfl]
  ·rw [hc _ (h.lows z q),if_neg (by rw [<- hk];exact hq)];exact h.clean z q hdz
 ·rw [<- h.sees j hj]
  unfold seeC
  rw [finds_putE h.keys he hk]
  by_cases hj2:j=e.k
  ·subst hj2
   rw [if_pos (by rw [hk]),finds_mem h.keys he]
   simp [hd]
  ·rw [if_neg (fun e2=>hj2 (by omega)),hc j hj,if_neg hj2]
 ·rcases mem_putE hz with rfl | ⟨q,_⟩
  ·rw [hk];exact h.lows e he
  ·exact h.lows z q
theorem Ci.wbs (hV:Hc V cont) {ks:List Int} (hr:WbsR V ks l x y l' x'):∀(_:Ci V cont l x f),y=0/\Ci V cont l' x' f/\l'.map En.k=l.map En.k:=by
 induction hr with
 | nil _ _=>exact fun h=>⟨rfl,h,rfl⟩
 | no _ _ _ _ _ _ _ _ hw hne=>exact fun _=>absurd (hV.wb hw).1 hne
 | next _ _ _ _ e e1 _ _ _ _ hf hw _ ih =>
  intro h
  obtain ⟨h2,h3⟩:=h.putE hV (finds_some hf).1 hw
  obtain ⟨h4,h5,h6⟩:=ih h2
  exact ⟨h4,h5,h6.trans h3⟩
theorem Ci.flush (hV:Hc V cont) (h:Ci V cont l x f) (hr:FlushR V l x y l' x'):y=0/\Ci V cont l' x' f/\l'.map En.k=l.map En.k:=by
 cases hr with
 | no _ _ _ hw hne=>exact absurd (h.wbs hV hw).1 hne
 | all _ _ _ _ hw hf =>
  obtain ⟨_,h2,h3⟩:=h.wbs hV hw
  obtain ⟨h4,h5⟩:=hV.fl hf
  exact ⟨h4,h2.cont_same h5,h3⟩
end
def IsC (V:VolK) (cont:V.σ->Nat->Sh.Bs) (c:Nat) (w:World) (O:Nat->Prop) (f:Nat->Sh.Bs) (C:Nat->Prop) (k:Nat):Prop :=
 ∃g most l x,Cav V w g most l x k/\g.c=c/\O=AllC V x g l/\Ci V cont l x f/\∀e∈l,¬C e.k
theorem cVolume {V:VolK} {w:World} {g:Cg} {most:Nat} {l:List En} (h:Ca V w g most l):Calls Tryz.prog 78 #[.pointer (some ⟨g.c,0,none⟩)] w fun e w'=>e=.returned (.pointer (some ⟨V.v,0,none⟩))/\w=w':=by
 have c0:=h.c0
 clear h
 go_enter Tryz.func78,Tryz.ntmps78
 go_wp2
 go_ret
 exact ⟨rfl,rfl⟩
def stoK (V:VolK) (cont:V.σ->Nat->Sh.Bs) (hV:Hc V cont) (c:Nat) (hn:V.n<=65535) (B:Nat) (W:World) (hb:∀{w x k},V.is w x k->Below B W w) (hT:Tabs W) (hTB:max 0 1+1<=B):StoK where
 c:=c
 v:=V.v
 n:=V.n
 B:=B
 W:=W
 Is:=IsC V cont c
 nmax:=hn
 tabs:=by
  rintro w O f C k ⟨g,most,l,x,h,_⟩
  exact hT.below hTB (hb h.vol)
 bel:=by
  rintro w O f C k ⟨g,most,l,x,h,_⟩
  exact hb h.vol
 lt:=by
  rintro w O f C k ⟨g,most,l,x,h,rfl,rfl,_⟩ b hb
  exact h.lt hb
 stays:=by
  rintro w w' O f C k F ⟨g,most,l,x,h,rfl,rfl,r⟩ ho hF
  exact ⟨g,most,l,x,h.only ho hF,rfl,rfl,r⟩
 less:=by
  rintro w O f C k k' ⟨g,most,l,x,h,r⟩ hk
  exact ⟨g,most,l,x,h.less hk,r⟩
 sec:=by
  rintro w O f C k m ⟨g,most,l,x,h,_,_,hi,_⟩ hm
  rw [<- hi.sees m hm]
  unfold seeC
  rcases hf:finds l (m:Int) with _ | e
  ·exact hV.sec m h.vol hm
  ·exact h.ca.secs e (finds_some hf).1
 volume:=by
  rintro w O f C k ⟨g,most,l,x,h,rfl,_⟩
  exact cVolume h.ca
 size:=by
  rintro w O f C k ⟨g,most,l,x,h,_⟩
  exact V.size h.vol
 vread:=by
  rintro w O f C k m ⟨g,most,l,x,h,rfl,rfl,hi,hC⟩ hm hc
  refine (V.read m h.vol hm).mono ?_
  rintro e w' ⟨y,A,len,cap,X,x',rfl,hr,his,hmv,hcase⟩
  obtain ⟨rfl,rfl,hcc⟩:=hV.rd hr
  obtain ⟨hv2,hm2⟩:=h.moved his hmv
  have hno:finds l (m:Int)=none:=by
   rcases hf:finds l (m:Int) with _ | e
   ·rfl
   ·obtain ⟨he,hk⟩:=finds_some hf
    exact absurd (by rw [show e.k=m by omega];exact hc) (hC e he)
  rcases hcase with ⟨_,rfl,hb,hs,hn⟩ | ⟨hne,_⟩
  ·refine ⟨A,cap,_,rfl,⟨g,most,l,x',hv2,rfl,rfl,hi.cont_same hcc,hC⟩,hm2,?_,fun a ha e=>e.elim (hn a ha) fun e2=>?_⟩
   ·rw [<- hi.sees m hm,see_none hno];exact hb
   ·have h1:=(hb.2 a ha).1
    have h2:=h.ca.lt e2
    omega
  ·exact absurd rfl hne
 vwrite:=by
  rintro w O f C k m A b cp ⟨g,most,l,x,h,rfl,rfl,hi,hC⟩ hm hc hA hb
  refine (V.write m cp h.vol hm ⟨hA.1,fun a ha e=>hA.2 a ha (.inl e)⟩ hb).mono ?_
  rintro e w' ⟨y,x',rfl,hr,his,hmv⟩
  obtain ⟨rfl,hcc⟩:=hV.wr hr
  obtain ⟨hv2,hm2⟩:=h.moved his hmv
  have hne:∀e∈l,e.k≠m:=fun e he q=>hC e he (by rw [q];exact hc)
  refine ⟨_,rfl,⟨g,most,l,x',hv2,rfl,rfl,⟨hi.pins,fun e he hd=>?_,fun j hj=>?_,hi.lows,hi.keys⟩,hC⟩,hm2⟩
  ·rw [hcc _ (hi.lows e he),if_neg (hne e he)];exact hi.clean e he hd
  ·by_cases hj2:j=m
   ·have hno:finds l (m:Int)=none:=by
     rcases hf:finds l (m:Int) with _ | e
     ·rfl
     ·obtain ⟨he,hk⟩:=finds_some hf
      exact absurd (by omega) (hne e he)
    rw [hj2,see_none hno,hcc m hm,if_pos rfl];exact (Go.Proofs.YtcnjpmcelihknaaGreatDoor.Kj.fset_same f m b).symm
   ·rw [Go.Proofs.YtcnjpmcelihknaaGreatDoor.Kj.fset_other f b hj2,<- hi.sees j hj]
    unfold seeC
    rw [hcc j hj,if_neg hj2]
 vflush:=by
  rintro w O f C k ⟨g,most,l,x,h,rfl,rfl,hi,hC⟩
  refine (V.flush h.vol).mono ?_
  rintro e w' ⟨y,x',rfl,hr,his,hmv⟩
  obtain ⟨rfl,hcc⟩:=hV.fl hr
  obtain ⟨hv2,hm2⟩:=h.moved his hmv
  exact ⟨_,rfl,⟨g,most,l,x',hv2,rfl,rfl,hi.cont_same hcc,hC⟩,hm2⟩
 get:=by
  rintro w O f C k m ⟨g,most,l,x,h,rfl,rfl,hi,hC⟩ hm
  refine (cGet h (m:Int)).mono ?_
  rintro e w' ⟨y,A,len,cap,rfl,X,l',x',u,hr,hv2,hm2,hcase⟩
  obtain ⟨rfl,rfl,hi2,hsub⟩:=hi.get hV h.ca.most1 hm hr
  rcases hcase with ⟨_,rfl,hb,hs,hn⟩ | ⟨hne,_⟩
  ·refine ⟨A,cap,_,rfl,⟨_,most,l',x',hv2,rfl,rfl,hi2,fun e he hc=>?_⟩,hm2,hb,hn⟩
   rcases hsub e he with ⟨e0,h0,hk⟩ | hk
   ·exact hC e0 h0 (by rw [<- hk];exact hc.1)
   ·exact hc.2 hk
  ·exact absurd rfl hne
 put:=by
  rintro w O f C k m A b cp ⟨g,most,l,x,h,rfl,rfl,hi,hC⟩ hm hA hb
  refine (cPut h (m:Int) (cp:=cp) hA hb).mono ?_
  rintro e w' ⟨y,l',x',rfl,hr,u,hv2,hm2⟩
  obtain ⟨rfl,hi2,hsub⟩:=hi.put hV h.ca.most1 hm hb.1 hr
  refine ⟨_,rfl,⟨_,most,l',x',hv2,rfl,rfl,hi2,fun e he hc=>?_⟩,hm2⟩
  rcases hsub e he with ⟨e0,h0,hk⟩ | hk
  ·exact hC e0 h0 (by rw [<- hk];exact hc.1)
  ·exact hc.2 hk
 flush:=by
  rintro w O f C k ⟨g,most,l,x,h,rfl,rfl,hi,hC⟩
  have hl:(risesE fFlush l).length<=1024:=Nat.le_trans rises_few (Nat.le_trans h.ca.len h.ca.mostM)
  refine (cFlush (h.less (show k+1+(risesE fFlush l).length<=k+1100 by omega))).mono ?_
  rintro e w' ⟨y,l',x',rfl,hr,hv2,hm2⟩
  obtain ⟨rfl,hi2,hk⟩:=hi.flush hV hr
  refine ⟨_,rfl,⟨g,most,l',x',hv2,rfl,rfl,hi2,fun e he=>?_⟩,hm2⟩
  have:e.k∈l.map En.k:=by rw [<- hk];exact List.mem_map_of_mem he
  obtain ⟨e0,h0,hk0⟩:=List.mem_map.1 this
  rw [<- hk0]
  exact hC e0 h0
end Go.Proofs.YtcnjpmcelihknaaGreatDoor.Kc
