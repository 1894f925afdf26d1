/-
  What the statement's proof rests on, part 19.
  Conditions: each theorem's own.
-/
import Derived.Test.YtcnjpmcelihknaaGreatDoorV15
import Derived.Test.YtcnjpmcelihknaaGreatDoorV07
import Derived.Deep.RegionWith
import Derived.Deep.RegionHeld3
open Go.Lib (hid)
namespace Go.Proofs.YtcnjpmcelihknaaGreatDoor.U
open Go.RowKit Go.Maps
theorem info_rdisk:(Tryz.prog.info? 130).map (fun i=>(i.zero,i.size,i.bytes))=some (some (.agg #[.pointer none,.pointer none]),2,16):=by kernel_rfl
def dv0 (a:Nat->Nat) (j:Nat) (i c:Nat):Value:=if c=0/\i<j then .pointer (some ⟨a i,0,none⟩) else .pointer none
structure OverRel (w wr:World) (p n v t mo mu j:Nat) (a:Nat->Nat):Prop where
 root:wr.heap[v]?=some (.cells #[.pointer (some ⟨p,0,none⟩),.int .i64 0,.int .i64 0,.int .i64 0,.int .i64 0,.int .i64 0,.int .i64 0,.int .i64 0,.int .i64 0,.int .i64 0,.slice (some ⟨t,0,none⟩) n n,.map (some mo),.map (some mu)] 134 (0,0))
 row:wr.ownsRow 0 130 2 (.slice (some ⟨t,0,none⟩) n n) n (Sh.rowOf (dv0 a j) n 2)
 opens:wr.heap[mo]?=some (.map #[] 0)
 used:wr.heap[mu]?=some (.map #[] 0)
 dev:∀i,i<j->DevIs wr (a i) p i (-1)
 inj:∀i k,i<j->k<j->a i=a k->i=k
 low:∀i,i<j->v<a i
 ord:w.heap.size<=t/\t<mo/\mo<mu/\mu<v
 bel:Below w.heap.size w wr
def atI (a:Nat->Nat) (j b:Nat):Nat->Nat:=fun i=>if i=j then b else a i
theorem zero_rdisks (a:Nat->Nat) (n:Nat):(madeCells (Value.agg #[.pointer none,.pointer none]).cells (n*2)).toList=Sh.rowOf (dv0 a 0) n 2:=by
 apply List.ext_getElem?
 intro i
 by_cases h:i<n*2
 ·have h4:i%2=0\/i%2=1:=by omega
  rcases h4 with e | e<;>simp [madeCells,Sh.rowOf,Value.cells,h,e,dv0]
 ·simp [madeCells,Sh.rowOf,h]
theorem over_start {w w1:World} {p n m:Nat} (hown1:w1.ownsRow 0 130 2 (.slice (some ⟨w.heap.size,0,none⟩) n n) n (madeCells (Value.agg #[.pointer none,.pointer none]).cells (n*2)).toList) (hgrow1:(w.drewN m).grownBy w1 none) :
  OverRel w (((w1.alloc (.map #[] 0)).alloc (.map #[] 0)).alloc (.cells #[.pointer (some ⟨p,0,none⟩),.int .i64 0,.int .i64 0,.int .i64 0,.int .i64 0,.int .i64 0,.int .i64 0,.int .i64 0,.int .i64 0,.int .i64 0,.slice (some ⟨w.heap.size,0,none⟩) n n,.map (some w1.heap.size),.map (some (w1.heap.size+1))] 134)) p n (w1.heap.size+1+1) w.heap.size w1.heap.size (w1.heap.size+1) 0 (fun _=>0):=by
 rw [zero_rdisks (fun _=>0)] at hown1
 have hlt:w.heap.size<w1.heap.size:=(hown1.lt w.heap.size rfl).2
 have hb:Below w.heap.size w w1:=(drawn (Below.refl _ w) m).grown hgrow1 (Nat.le_refl _) (fun _ h=>by cases h)
 have hs2:((w1.alloc (.map #[] 0)).alloc (.map #[] 0)).heap.size=w1.heap.size+1+1:=by simp
 refine ⟨?_,((hown1.alloc _).alloc _).alloc _,?_,?_,fun i h=>absurd h (by omega),fun i k h=>absurd h (by omega),fun i h=>absurd h (by omega),⟨Nat.le_refl _,hlt,by omega,by omega⟩,?_⟩
 ·rw [<- hs2];exact heap_alloc_new _ _
 ·exact (Below.heap_alloc _ _ _ (by simp;omega)).trans (heap_alloc2_old w1 _ _)
 ·exact (Below.heap_alloc _ _ _ (by simp)).trans (heap_alloc2_new w1 _ _)
 ·exact ((hb.alloc hb.size _).alloc (by simp;omega) _).alloc (by simp;omega) _
theorem dv0_put (a:Nat->Nat) (n j b:Nat) (hj:j<n):(Sh.rowOf (dv0 a j) n 2).set (j*2+0) (.pointer (some ⟨b,0,none⟩))=Sh.rowOf (dv0 (atI a j b) (j+1)) n 2:=by
 rw [Sh.rowOf_set _ (by decide)]
 refine Sh.rowOf_congr (by decide) fun i c _ hc=>?_
 unfold dv0 atI
 by_cases hi:i=j
 ·subst hi
  by_cases h0:c=0
  ·subst h0;simp
  ·simp [h0]
 ·by_cases h0:c=0
  ·subst h0
   by_cases hlt:i<j
   ·simp [hi,hlt,show i<j+1 by omega]
   ·simp [hi,hlt,show ¬i<j+1 by omega]
  ·simp [h0]
theorem OverRel.next {w wr w4:World} {p n v t mo mu j b:Nat} {a:Nat->Nat} (h:OverRel w wr p n v t mo mu j a) (hj:j<n) (hd:DevIs w4 b p j (-1)) (hb:Below wr.heap.size wr w4) (hbl:wr.heap.size<=b) :
  OverRel w (w4.setCell ⟨t,j*2,none⟩ (.pointer (some ⟨b,0,none⟩))) p n v t mo mu (j+1) (atI a j b):=by
 have ht:=(h.row.lt t rfl).2
 have hv:=lt_of_block h.root
 obtain ⟨o1,o2,o3,o4⟩:=h.ord
 have hk:∀x,x≠t->(w4.setCell ⟨t,j*2,none⟩ (.pointer (some ⟨b,0,none⟩))).heap[x]?=w4.heap[x]?:=fun x hx=>Sh.heap_set_other _ _ _ hx
 have hr0:w4.ownsRow 0 130 2 (.slice (some ⟨t,0,none⟩) n n) n (Sh.rowOf (dv0 a j) n 2):=Sh.same_row h.row fun x hx=>by
  injection hx with hx;subst hx;exact hb.block _ ht
 have hr1:=(hr0.stored (j*2+0) (.pointer (some ⟨b,0,none⟩))).1
 rw [dv0_put a n j b hj] at hr1
 refine ⟨?_,hr1,?_,?_,fun i hi=>?_,fun i k hi hk2 e=>?_,fun i hi=>?_,h.ord,(h.bel.trans (hb.mono h.bel.size)).setCell (p:=⟨t,j*2,none⟩) o1 _⟩
 ·exact (hk v (by omega)).trans ((hb.block v hv).trans h.root)
 ·exact (hk mo (by omega)).trans ((hb.block mo (by omega)).trans h.opens)
 ·exact (hk mu (by omega)).trans ((hb.block mu (by omega)).trans h.used)
 ·unfold atI
  by_cases e:i=j
  ·subst e
   rw [if_pos rfl]
   exact hd.same (hk b (by omega))
  ·rw [if_neg e]
   have hdi:=h.dev i (by omega)
   have hlo:=h.low i (by omega)
   exact hdi.same ((hk (a i) (by omega)).trans (hb.block _ hdi.lt))
 ·unfold atI at e
  by_cases ei:i=j
  ·by_cases ek:k=j
   ·omega
   ·rw [if_pos ei,if_neg ek] at e
    have:=(h.dev k (by omega)).lt
    omega
  ·by_cases ek:k=j
   ·rw [if_neg ei,if_pos ek] at e
    have:=(h.dev i (by omega)).lt
    omega
   ·rw [if_neg ei,if_neg ek] at e
    exact h.inj i k (by omega) (by omega) e
 ·unfold atI
  by_cases e:i=j
  ·rw [if_pos e];omega
  ·rw [if_neg e];exact h.low i (by omega)
theorem OverRel.facts {w wr w':World} {p n v t mo mu j:Nat} {a:Nat->Nat} (h:OverRel w wr p n v t mo mu j a) (hb:Below wr.heap.size wr w'):w'.cell? ⟨v,10,none⟩=some (.slice (some ⟨t,0,none⟩) n n)/\w'.frozen? ⟨t,j*2,none⟩=false/\(j<n->w'.cell? ⟨t,j*2,none⟩=some (.pointer none)):=by
 have ht:=(h.row.lt t rfl).2
 have hv:=lt_of_block h.root
 refine ⟨?_,?_,fun hj=>?_⟩
 ·rw [hb.cell (p:=⟨v,10,none⟩) hv];exact cell_of_row _ _ 10 _ _ _ h.root
 ·rw [hb.frozen (p:=⟨t,j*2,none⟩) ht];exact h.row.frozenAt _
 ·have e:=Sh.cell_at h.row (Sh.rowOf_at (c:=0) _ hj (by decide))
  rw [Nat.add_zero] at e
  rw [hb.cell (p:=⟨t,j*2,none⟩) ht,e]
  unfold dv0
  rw [if_neg (by omega)]
theorem below_only0 {w w1:World} (h:Below w.heap.size w w1):Sh.Only (fun _=>False) w w1:=⟨h.os,h.tape,h.output,h.size,fun k hk _=>h.block k hk⟩
theorem open_in {w wr:World} {p n d:Nat} {S:Sh.Sf} {F:Nat->Prop} (h:Sh.Shelf w p S F) (hn:S.disks.length=n) (hb:Below w.heap.size w wr) (hd:d<n) (w3:World) (h3:Below wr.heap.size wr w3) :
  Calls Tryz.prog 128 #[.pointer (some ⟨p,0,none⟩),.int .i64 d] w3 fun e w'=>∃b,e=.returned (.tuple #[.pointer (some ⟨b,0,none⟩),.int .i64 0])/\DevIs w' b p d (-1)/\wr.heap.size<=b/\Below wr.heap.size wr w':=by
 have hs3:Sh.Shelf w3 p S F:=h.only (G:=fun _=>False) (below_only0 (hb.trans (h3.mono hb.size))) (fun _ _ e=>e)
 refine (open_yes d hs3 (by omega)).mono ?_
 rintro e w' ⟨rfl,hd,hb2⟩
 exact ⟨_,rfl,hd,h3.size,h3.trans (hb2.mono h3.size)⟩
set_option maxRecDepth 20000 in
set_option maxHeartbeats 1600000 in
theorem over_ok (w:World) (p n:Nat) {S:Sh.Sf} {F:Nat->Prop} (h:Sh.Shelf w p S F) (hn:S.disks.length=n) (h1:1<=n) (h17:n<=17) :
  Calls Tryz.prog 70 #[.pointer (some ⟨p,0,none⟩)] w fun e w'=>∃v t mo mu a,e=.returned (.pointer (some ⟨v,0,none⟩))/\OverRel w w' p n v t mo mu n a:=by
 obtain ⟨i0,hi,hz0,hz1,hz2⟩:=info_parts info_rdisk
 have hs:=hid (size_of h)
 have H:=hid h
 have HN:=hid hn
 rw [hn] at hs
 clear hn h
 have hmm:=@run_makeMap Tryz.prog
 go_enter Tryz.func70,Tryz.ntmps70
 go_wp2_with fail
 refine hs.out.mono ?_
 rintro e w0 ⟨rfl,m,rfl⟩
 go_wp2_with (at_make;refine wpList_make_full _ rfl _ _ 126 rfl 0 130 i0 _ 2 Tryz.underlying126 hi hz0 hz1 _ _ _ _ n rfl rfl rfl rfl (by rw [hz2];omega) (by unfold maxLen;omega) (Nat.zero_le _) ?_;intro w1 hown1 hgrow1)
 have hst:=over_start (w:=w) (m:=m) (p:=p) hown1 hgrow1
 clear hown1 hgrow1 hi hz0 hz1 hz2 hmm
 generalize hv:w1.heap.size+1+1=v at *
 generalize hmu:w1.heap.size+1=mu at *
 generalize hmo:w1.heap.size=mo at *
 generalize ht:w.heap.size=t at *
 clear hv hmu hmo
 have HT:=hid ht
 clear ht
 generalize (((w1.alloc (.map #[] 0)).alloc (.map #[] 0)).alloc (.cells #[.pointer (some ⟨p,0,none⟩),.int .i64 0,.int .i64 0,.int .i64 0,.int .i64 0,.int .i64 0,.int .i64 0,.int .i64 0,.int .i64 0,.int .i64 0,.slice (some ⟨t,0,none⟩) n n,.map (some mo),.map (some mu)] 134))=w2 at *
 have hrel0:Hid (∃a,OverRel w w2 p n v t mo mu 0 a):=hid ⟨_,hst⟩
 clear hst
 go_loopw [24] (fun i wr=>∃j:Nat,j<=n/\i=.int .i64 j/\Hid (∃a,OverRel w wr p n v t mo mu j a)) (fun i _=>n-(intOf i).toNat)
 case atStart=>exact ⟨0,Nat.zero_le _,rfl,hrel0⟩
 case round =>
  obtain ⟨j,hj,rfl,hrel⟩:=hrel
  obtain ⟨a,hN⟩:=hrel.out
  have c10:=(hN.facts (Below.refl _ wr)).1
  have hvl:=lt_of_block hN.root
  have HN2:=hid hN
  clear hN hrel
  by_cases hlt:j<n
  ·go_wp2
   go_region_with (go_at_call 128;refine (open_in H.out HN.out HN2.out.bel hlt _ (by first | exact (Below.refl _ wr).drew | exact Below.refl _ wr)).mono ?_;rintro e w4 ⟨b,rfl,hd,hbl,hb4⟩;obtain ⟨c10',f0,c0⟩:=HN2.out.facts hb4;have c0:=c0 hlt)
   all_goals
    go_wp2
    go_roundw
    case rel=>exact ⟨j+1,by omega,by go_num,hid ⟨_,HN2.out.next hlt hd hb4 hbl⟩⟩
    case measure=>simp [intOf];omega
  ·obtain rfl:j=n:=by omega
   go_wp2
   go_ret
   exact ⟨v,t,mo,mu,a,rfl,HN2.out⟩
end Go.Proofs.YtcnjpmcelihknaaGreatDoor.U
