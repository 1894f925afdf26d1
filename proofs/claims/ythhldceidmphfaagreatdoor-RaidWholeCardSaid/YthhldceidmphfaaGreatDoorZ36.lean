/-
  What the statement's proof rests on, part 36.
  Conditions: each theorem's own.
-/
import Derived.Test.YthhldceidmphfaaGreatDoorZ35
import Derived.Test.YthhldceidmphfaaGreatDoorZtk
namespace Go.Proofs.YthhldceidmphfaaGreatDoor.U
open Go.RowKit Go.Maps
def sayTo (S:Sh.Sf) (j k:Nat):List Go.Proofs.YthhldceidmphfaaGreatDoor.S.Sup:=(slotsTo 2 j k).filterMap fun x=>sayO S x.1 x.2
theorem sayTo_succ (S:Sh.Sf) (j k:Nat):sayTo S j (k+1)=sayTo S j k++(sayO S j k).toList:=by
 unfold sayTo
 rw [slotsTo_succ,List.filterMap_append]
 cases h:sayO S j k<;>simp [h]
theorem sayTo_next (S:Sh.Sf) (j:Nat):sayTo S (j+1) 0=sayTo S j 2:=by unfold sayTo;rw [slotsTo_next]
theorem sayTo_le (S:Sh.Sf) (j k:Nat):(sayTo S j k).length≤j*2+k:=by
 unfold sayTo
 have:=List.length_filterMap_le (fun x:Nat × Nat=>sayO S x.1 x.2) (slotsTo 2 j k)
 rw [slotsTo_length] at this
 exact this
def supCells (l:List Go.Proofs.YthhldceidmphfaaGreatDoor.S.Sup):List Value:=l.flatMap fun x=>x.cells.toList
theorem supCells_snoc (l:List Go.Proofs.YthhldceidmphfaaGreatDoor.S.Sup) (x:Go.Proofs.YthhldceidmphfaaGreatDoor.S.Sup):supCells (l++[x])=supCells l++x.cells.toList:=by simp [supCells]
theorem info_sup3:(Tryz.prog.info? 65).map (fun i=>(i.zero,i.size,i.bytes))=some (some (.agg #[.int .i64 0,.int .i64 0,.int .i64 0,.int .i64 0,.int .i64 0,.int .i64 0,.int .i64 0,.int .i64 0]),8,64):=by kernel_rfl
def SupOwn (w:World) (base:Nat) (v:Value) (l:List Go.Proofs.YthhldceidmphfaaGreatDoor.S.Sup):Prop:=w.ownsRow base 65 8 v l.length (supCells l)
section
variable {B:Nat} {W w w':World} {v p t n mo mu:Nat} {s:Go.Proofs.YthhldceidmphfaaGreatDoor.S.Sup} {base:Int} {a:Nat→Nat} {o:Nat→Int} {g:Nat→Option Addr} {S S':Sh.Sf} {F:Nat→Prop}
def SgRel (B:Nat) (W w:World) (v p t n mo mu:Nat) (s:Go.Proofs.YthhldceidmphfaaGreatDoor.S.Sup) (base:Int) (a:Nat→Nat) (o:Nat→Int) (g:Nat→Option Addr) (S:Sh.Sf) (F:Nat→Prop) (j k:Nat) (u:Value) (wr:World):Prop :=
 VoS B W w wr v p t n mo mu s base a o g S F∧SupOwn wr w.heap.size u (sayTo S j k)
theorem SupOwn.over {u:Value} {l:List Go.Proofs.YthhldceidmphfaaGreatDoor.S.Sup} (h:SupOwn w w'.heap.size u l) {w2:World} (ho:Sh.Only F w w2) (hF:∀b,F b→b<w'.heap.size):SupOwn w2 w'.heap.size u l :=
 Sh.same_row h (fun b hb=>ho.block b (h.lt b hb).2 (fun e=>by have:=hF b e;have:=(h.lt b hb).1;omega))
theorem VoS.trans {w2:World} (h:VoS B W w w' v p t n mo mu s base a o g S F) (k:∀S1,Same S S1→Vo B W w' v p t n mo mu s base a o g S1 F→VoS B W w' w2 v p t n mo mu s base a o g S1 F):VoS B W w w2 v p t n mo mu s base a o g S F:=by
 obtain ⟨S1,h1,h2,h3⟩:=h
 obtain ⟨S2,k1,k2,k3⟩:=k S1 h1 h2
 exact ⟨S2,h1.trans k1,k2,h3.trans k3 fun b e=>.inl e⟩
theorem Vo.below_stay (h:Vo B W w v p t n mo mu s base a o g S F) (hb:Below w.heap.size w w'):VoS B W w w' v p t n mo mu s base a o g S F:=⟨S,Same.refl S,h.grown hb,only_below F hb⟩
def SgQ (B:Nat) (W w:World) (v p t n mo mu:Nat) (s:Go.Proofs.YthhldceidmphfaaGreatDoor.S.Sup) (base:Int) (a:Nat→Nat) (o:Nat→Int) (g:Nat→Option Addr) (S:Sh.Sf) (F:Nat→Prop) (e:Ending) (w':World):Prop :=
 ∃u,e=.returned u∧VoS B W w w' v p t n mo mu s base a o g S F∧SupOwn w' w.heap.size u (sayTo S n 0)
set_option maxRecDepth 20000 in
set_option maxHeartbeats 4000000 in
theorem sayings_any (h:Vo B W w v p t n mo mu s base a o g S F) (hT:Tabs W) (hTB:max 1 2+1≤B) (hWi:Go.Proofs.YthhldceidmphfaaGreatDoor.S.Wid W) (hWB:0+1≤B)
  (hn:S.disks.length=n) (hbb:2≤blk S.sectors) (hsay:∀d b x,d<n→b<2→sayO S d b=some x→SayIs n (blk S.sectors) d b x) :
  Calls Tryz.prog 86 #[.pointer (some ⟨v,0,none⟩)] w (SgQ B W w v p t n mo mu s base a o g S F):=by
 obtain ⟨i0,hi,hz0,hz1,hz2⟩:=info_parts info_sup3
 have c10:=h.vol.c10
 have h17:n≤17:=by
  obtain ⟨D0,gs,q⟩:=h.ds.on.shelf
  have:=q.most
  omega
 have HN:=Lib.hid hn
 have HSA:=Lib.hid hsay
 have HH0:=Lib.hid h
 have HF:=Lib.hid (fun (b:Nat) (hF:F b)=>h.ds.lt b (.inl hF))
 have hrel0:Hid (SgRel B W w v p t n mo mu s base a o g S F 0 0 (.slice none 0 0) w):=Lib.hid ⟨h.below_stay (Below.refl _ _),World.ownsRow_nil _ _ _ _⟩
 clear h hn hsay
 go_enter Tryz.func86,Tryz.ntmps86
 go_wp2
 clear c10
 go_loopw [3,13] (fun u i wr=>∃j:Nat,j≤n∧i=.int .i64 j∧Hid (SgRel B W w v p t n mo mu s base a o g S F j 0 u wr)) (fun _ i _=>n-(intOf i).toNat)
 case atStart=>exact ⟨0,Nat.zero_le _,rfl,hrel0⟩
 case round =>
  obtain ⟨j,hj,rfl,hrel⟩:=hrel
  by_cases hlt:j<n
  ·have HRL:=hrel
   clear hrel hrel0
   go_wp2
   go_loopw [3,16] (fun u i wr=>∃k:Nat,k≤2∧i=.int .i64 k∧Hid (SgRel B W w v p t n mo mu s base a o g S F j k u wr)) (fun _ i _=>2-(intOf i).toNat)
   case atStart=>exact ⟨0,Nat.zero_le _,rfl,HRL⟩
   case round =>
    obtain ⟨k,hk,rfl,hrel⟩:=hrel
    by_cases hkt:k<2
    ·obtain ⟨⟨S1,s1,V1,O1⟩,hown⟩:=hrel.out
     have HSY:=Lib.hid (saying_any V1 hT hTB hWi hWB (s1.len.trans HN.out) j k hlt hkt (by rw [s1.sectors];exact hbb) (fun x hx=>by rw [sayO_same s1] at hx;rw [s1.sectors];exact HSA.out j k x hlt hkt hx))
     rw [sayO_same s1] at HSY
     have HK:=Lib.hid (And.intro s1 (And.intro V1 (And.intro O1 hown)))
     have HTS:=Lib.hid (sayTo_succ S j k)
     have HLE:=Lib.hid (sayTo_le S j k)
     clear s1 V1 O1 hown hrel
     generalize sayO S j k=so at *
     go_wp2_with fail
     refine HSY.out.mono ?_
     rintro e w2 ⟨x,b,rfl,hb1,hb0,hvs⟩
     obtain ⟨s1,V1,O1,hown⟩:=HK.out
     obtain ⟨x0,x1,x2,x3,x4,x5,x6,x7⟩:=x
     have hvs2:VoS B W w w2 v p t n mo mu s base a o g S F:=by
      obtain ⟨S2,k1,k2,k3⟩:=hvs
      exact ⟨S2,s1.trans k1,k2,O1.trans k3 fun b e=>.inl e⟩
     have hown2:SupOwn w2 w.heap.size u3 (sayTo S j k):=by
      obtain ⟨S2,k1,k2,k3⟩:=hvs
      exact SupOwn.over hown k3 HF.out
     have hbw:Below w2.heap.size w2 (w2.alloc (.cells #[.int .i64 x0,.int .i64 x1,.int .i64 x2,.int .i64 x3,.int .i64 x4,.int .i64 x5,.int .i64 x6,.int .i64 x7] 65)):=(Below.refl _ _).alloc (Nat.le_refl _) _
     clear hvs s1 V1 O1 hown HK
     unfold Go.Proofs.YthhldceidmphfaaGreatDoor.S.Sup.val
     simp only [Go.Proofs.YthhldceidmphfaaGreatDoor.S.Sup.cells]
     cases b
     ·have hno:=hb0 rfl
      have HR:Hid (SgRel B W w v p t n mo mu s base a o g S F j (k+1) u3 (w2.alloc (.cells #[.int .i64 x0,.int .i64 x1,.int .i64 x2,.int .i64 x3,.int .i64 x4,.int .i64 x5,.int .i64 x6,.int .i64 x7] 65))):=Lib.hid ⟨hvs2.trans fun S1 _ V=>V.below_stay hbw,by
       rw [HTS.out,hno]
       simpa using hown2.over (only_below F hbw) HF.out⟩
      clear hno hb0 hb1 hvs2 hown2 hbw HSY HTS HLE
      go_wp2_with fail
      go_roundw
      case rel=>exact ⟨k+1,by omega,by go_num,HR⟩
      case measure=>simp [intOf];omega
     ·have hso:=hb1 rfl
      have hbw2:Below w2.heap.size w2 ((w2.alloc (.cells #[.int .i64 x0,.int .i64 x1,.int .i64 x2,.int .i64 x3,.int .i64 x4,.int .i64 x5,.int .i64 x6,.int .i64 x7] 65)).alloc (.cells #[.int .i64 x0,.int .i64 x1,.int .i64 x2,.int .i64 x3,.int .i64 x4,.int .i64 x5,.int .i64 x6,.int .i64 x7] 65)):=hbw.alloc (by simp) _
      have hz3:(w2.alloc (.cells #[.int .i64 x0,.int .i64 x1,.int .i64 x2,.int .i64 x3,.int .i64 x4,.int .i64 x5,.int .i64 x6,.int .i64 x7] 65)).heap.size=w2.heap.size+1:=by simp
      have HHZ:=Lib.hid (show ((w2.alloc (.cells #[.int .i64 x0,.int .i64 x1,.int .i64 x2,.int .i64 x3,.int .i64 x4,.int .i64 x5,.int .i64 x6,.int .i64 x7] 65)).alloc (.cells #[.int .i64 x0,.int .i64 x1,.int .i64 x2,.int .i64 x3,.int .i64 x4,.int .i64 x5,.int .i64 x6,.int .i64 x7] 65)).heap.size=w2.heap.size+2 by simp)
      have hnews:∀j u,([Value.int .i64 x0,.int .i64 x1,.int .i64 x2,.int .i64 x3,.int .i64 x4,.int .i64 x5,.int .i64 x6,.int .i64 x7]:List Value)[j]?=some u→((w2.alloc (.cells #[.int .i64 x0,.int .i64 x1,.int .i64 x2,.int .i64 x3,.int .i64 x4,.int .i64 x5,.int .i64 x6,.int .i64 x7] 65)).alloc (.cells #[.int .i64 x0,.int .i64 x1,.int .i64 x2,.int .i64 x3,.int .i64 x4,.int .i64 x5,.int .i64 x6,.int .i64 x7] 65)).cell? ((⟨w2.heap.size+1,0,none⟩:Addr).add j)=some u:=by
       intro j u hu
       have hrow:=heap_alloc_new (w2.alloc (.cells #[.int .i64 x0,.int .i64 x1,.int .i64 x2,.int .i64 x3,.int .i64 x4,.int .i64 x5,.int .i64 x6,.int .i64 x7] 65)) (.cells #[.int .i64 x0,.int .i64 x1,.int .i64 x2,.int .i64 x3,.int .i64 x4,.int .i64 x5,.int .i64 x6,.int .i64 x7] 65)
       rw [hz3] at hrow
       rw [add_plain,Nat.zero_add,cell_of_row _ _ j _ _ _ hrow]
       exact (List.getElem?_toArray (xs:=[Value.int .i64 x0,.int .i64 x1,.int .i64 x2,.int .i64 x3,.int .i64 x4,.int .i64 x5,.int .i64 x6,.int .i64 x7])).trans hu
      obtain ⟨k0,k1,k2,k3,k4,k5,k6,k7,_⟩:=Go.Proofs.YthhldceidmphfaaGreatDoor.S.cells8_of (heap_alloc_new w2 (.cells #[.int .i64 x0,.int .i64 x1,.int .i64 x2,.int .i64 x3,.int .i64 x4,.int .i64 x5,.int .i64 x6,.int .i64 x7] 65))
      have hEown:((w2.alloc (.cells #[.int .i64 x0,.int .i64 x1,.int .i64 x2,.int .i64 x3,.int .i64 x4,.int .i64 x5,.int .i64 x6,.int .i64 x7] 65)).alloc (.cells #[.int .i64 x0,.int .i64 x1,.int .i64 x2,.int .i64 x3,.int .i64 x4,.int .i64 x5,.int .i64 x6,.int .i64 x7] 65)).ownsRow w.heap.size 65 8 u3 (sayTo S j k).length (supCells (sayTo S j k)):=hown2.over (only_below F hbw2) HF.out
      have HV2:=Lib.hid (hvs2.trans fun S1 _ V=>V.below_stay hbw2)
      have HTE:Hid (sayTo S j (k+1)=sayTo S j k++[⟨x0,x1,x2,x3,x4,x5,x6,x7⟩]):=Lib.hid (by rw [HTS.out,hso];rfl)
      have hlen:(sayTo S j k).length≤40:=by have:=HLE.out;omega
      have hsz2:w.heap.size≤w2.heap.size:=by
       obtain ⟨S2,_,_,k3⟩:=hvs2
       exact k3.size
      have HSZ:=Lib.hid hsz2
      clear hso hb0 hb1 hvs2 hown2 hbw hbw2 hz3 HSY HTS HLE
      go_wp2_with (at_builtin;refine wpList_append_own_at _ rfl _ _ 60 rfl w.heap.size 65 i0 _ 8 64 Tryz.underlying60 hi hz0 hz1 hz2 rfl (by decide) _ (sayTo S j k).length (supCells (sayTo S j k)) rfl hEown ⟨w2.heap.size+1,0,none⟩ 1 1 [Value.int .i64 x0,.int .i64 x1,.int .i64 x2,.int .i64 x3,.int .i64 x4,.int .i64 x5,.int .i64 x6,.int .i64 x7] rfl rfl hnews (by intro u hu;simp at hu;rcases hu with rfl | rfl | rfl | rfl | rfl | rfl | rfl | rfl<;>rfl) (by unfold maxLen;omega) (by omega) (by have:=HHZ.out;omega) ?_;intro v5 w5 own5 hg5 _ hob5)
      have hR:SgRel B W w v p t n mo mu s base a o g S F j (k+1) v5 w5:=by
       refine ⟨?_,?_⟩
       ·obtain ⟨S2,q1,q2,q3⟩:=HV2.out
        have hO5:Sh.Only F w w5:=q3.grown hg5 (fun b hb=>.inr ((hEown.lt b hb).1))
        have ho:Sh.Only (fun b=>u3.ownBlock=some b) ((w2.alloc (.cells #[.int .i64 x0,.int .i64 x1,.int .i64 x2,.int .i64 x3,.int .i64 x4,.int .i64 x5,.int .i64 x6,.int .i64 x7] 65)).alloc (.cells #[.int .i64 x0,.int .i64 x1,.int .i64 x2,.int .i64 x3,.int .i64 x4,.int .i64 x5,.int .i64 x6,.int .i64 x7] 65)) w5:=⟨hg5.os,hg5.tape,hg5.output,hg5.size,fun k hk hne=>hg5.block k hk (fun e=>hne e.symm)⟩
        refine ⟨S2,q1,HH0.out.stay (q2.ds.on.shelf.only ho (fun b hF e=>?_)) hO5,hO5⟩
        have h1:=(hEown.lt b e).1
        have h2:=HF.out b hF
        omega
       ·unfold SupOwn
        rw [HTE.out,List.length_append,supCells_snoc]
        exact own5
      have HR:=Lib.hid hR
      clear hR own5 hg5 hob5 hEown hnews
      go_wp2_with fail
      go_roundw
      case rel=>exact ⟨k+1,by omega,by go_num,HR⟩
      case measure=>simp [intOf];omega
    ·have hk2:k=2:=by omega
     subst hk2
     obtain ⟨hv,hown⟩:=hrel.out
     have HR:=Lib.hid (show SgRel B W w v p t n mo mu s base a o g S F (j+1) 0 u3 wr from ⟨hv,by rw [sayTo_next];exact hown⟩)
     clear hv hown hrel HRL
     go_wp2
     go_roundw
     case rel=>exact ⟨j+1,by omega,by go_num,HR⟩
     case measure=>simp [intOf];omega
  ·obtain rfl:j=n:=by omega
   have HR:=Lib.hid hrel.out
   clear hrel hrel0
   go_wp2
   go_ret
   exact ⟨_,rfl,HR.out.1,HR.out.2⟩
end
def SuR (S:Sh.Sf) (d:Nat) (o:Int) (k:Nat) (b:Sh.Bs) (y o':Int) (S':Sh.Sf):Prop :=
 ∃y1 o1 S1,DW S d o k b y1 o1 S1∧((y1≠0∧y=y1∧o'=o1∧S'=S1)∨(y1=0∧y=Sh.why S1 d∧o'=shut (Sh.why S1 d) o1∧S'=Fl S1 d))
section
variable {S S':Sh.Sf} {d k:Nat} {o y o':Int} {b:Sh.Bs}
theorem SuR.len (h:SuR S d o k b y o' S'):S'.disks.length=S.disks.length:=by
 obtain ⟨_,_,_,h1,⟨_,_,_,rfl⟩ | ⟨_,_,_,rfl⟩⟩:=h
 ·exact h1.len
 ·exact (fl_length _ _).trans h1.len
theorem SuR.sectors (h:SuR S d o k b y o' S'):S'.sectors=S.sectors:=by
 obtain ⟨_,_,_,h1,⟨_,_,_,rfl⟩ | ⟨_,_,_,rfl⟩⟩:=h
 ·exact h1.sectors
 ·exact (fl_sectors _ _).trans h1.sectors
theorem SuR.alike (h:SuR S d o k b y o' S'):Alike d S S':=by
 obtain ⟨_,_,_,h1,⟨_,_,_,rfl⟩ | ⟨_,_,_,rfl⟩⟩:=h
 ·exact h1.alike
 ·exact h1.alike.trans (alike_fl _ _)
theorem SuR.waits {m:Nat} (h:SuR S d o k b y o' S') (hL:∀x∈S.disks,x.waits.length≤m):∀x∈S'.disks,x.waits.length≤m+3:=by
 obtain ⟨_,_,_,h1,⟨_,_,_,rfl⟩ | ⟨_,_,_,rfl⟩⟩:=h
 ·exact h1.waits hL
 ·exact fl_lens (h1.waits hL)
end
section
variable {B:Nat} {W w:World} {a p d:Nat} {o:Int} {S:Sh.Sf} {F:Nat→Prop}
theorem sureR_any (h:Dv B W w a p d o S F) (hT:Tabs W) (hTB:max 1 2+1≤B) (hd:d<S.disks.length) (k:Nat) (hk:k<blk S.sectors) (b:Sh.Bs) {A:Option Addr} {c:Nat} {m:Nat}
  (hb:Sh.Sec b) (hA:Sh.Beside w (With F a) A b) (hL:∀k∈S.disks,k.waits.length≤m) (hm:m≤1000000) (g:Option Addr) :
  Calls Tryz.prog 139 #[.agg #[.pointer (some ⟨a,0,none⟩),.pointer g],.int .i64 k,.slice A 128 c] w fun e w'=>∃y:Int,e=.returned (.int .i64 y)∧∃o' S',SuR S d o k b y o' S'∧Goes B W w w' a p d o' S' F:=by
 have hbw:Below w.heap.size w (w.alloc (.cells #[.pointer (some ⟨a,0,none⟩),.pointer g] 109)):=(Below.refl _ _).alloc (Nat.le_refl _) _
 have hl:=heap_alloc_new w (.cells #[.pointer (some ⟨a,0,none⟩),.pointer g] 109)
 have hlt:=with_lt h
 have HWR:=Lib.hid (dwrite (c:=c) (h.grown hbw) hT hTB k hk hd b hb (hA.grown hbw) hL (by omega))
 have l0:=cell_of_row _ _ 0 _ _ _ hl
 simp only [List.getElem?_toArray,List.getElem?_cons_zero] at l0
 have HLT:=Lib.hid hlt
 have HB:=Lib.hid hbw
 have HL2:=Lib.hid hl
 have HM:=Lib.hid hm
 have HD:=Lib.hid (And.intro hd hL)
 clear h hb hA hL hl hbw hlt hk hm hd
 go_enter Tryz.func139,Tryz.ntmps139
 go_wp2_with fail
 refine HWR.out.mono ?_
 rintro e w1 ⟨y,rfl,o1,S1,hW,F1,D1,M1⟩
 have hrow:w1.heap[w.heap.size]?=_:=(M1.1.block w.heap.size (lt_of_block HL2.out) (fun e=>Nat.lt_irrefl _ (HLT.out _ e))).trans HL2.out
 have k0:=cell_of_row _ _ 0 _ _ _ hrow
 simp only [List.getElem?_toArray,List.getElem?_cons_zero] at k0
 have M0:Sh.Moves (With F a) w (With F1 a) w1:=(moves_below HB.out).trans M1
 by_cases h0:y=0
 ·subst h0
  have HFL:=Lib.hid (flush_dev D1 (by rw [hW.len];exact HD.out.1) (fun x hx=>by have:=hW.waits HD.out.2 x hx;have:=HM.out;omega))
  have KEEP:=Lib.hid (And.intro (show SuR S d o k b (Sh.why S1 d) (shut (Sh.why S1 d) o1) (Fl S1 d) from ⟨0,o1,S1,hW,.inr ⟨rfl,rfl,rfl,rfl⟩⟩) M0)
  generalize shut (Sh.why S1 d) o1=o2 at *
  generalize Sh.why S1 d=y2 at *
  clear hW D1 M1 M0 hrow l0 HWR
  go_wp2_with fail
  refine HFL.out.mono ?_
  rintro e w2 ⟨rfl,F2,D2,M2⟩
  go_wp2
  go_ret
  exact ⟨y2,rfl,o2,_,KEEP.out.1,F2,D2,KEEP.out.2.trans M2⟩
 ·have hq:(y == 0)=false:=by rw [beq_eq_false_iff_ne];exact h0
  have KEEP:=Lib.hid (And.intro (show SuR S d o k b y o1 S1 from ⟨y,o1,S1,hW,.inl ⟨h0,rfl,rfl,rfl⟩⟩) (And.intro D1 M0))
  clear hW D1 M1 M0 hrow l0 HWR h0
  go_wp2
  go_ret
  exact ⟨y,rfl,o1,S1,KEEP.out.1,F1,KEEP.out.2.1,KEEP.out.2.2⟩
end
section
variable {B:Nat} {W w w':World} {v p t n mo mu q:Nat} {s x:Go.Proofs.YthhldceidmphfaaGreatDoor.S.Sup} {base:Int} {a:Nat→Nat} {o:Nat→Int} {g:Nat→Option Addr} {S S':Sh.Sf} {F:Nat→Prop}
set_option maxRecDepth 20000 in
theorem sayOn_rel (h:Vo B W w v p t n mo mu s base a o g S F) (hT:Tabs W) (hTB:max 1 2+1≤B) (hWi:Go.Proofs.YthhldceidmphfaaGreatDoor.S.Wid W) (hWB:0+1≤B)
  (d:Nat) (hd:d<n) (x:Go.Proofs.YthhldceidmphfaaGreatDoor.S.Sup) (hr:({ x with disk:=(d:Int) }:Go.Proofs.YthhldceidmphfaaGreatDoor.S.Sup).right=true) (hn:S.disks.length=n) (hb:2≤blk S.sectors) {m:Nat} (hL:∀k∈S.disks,k.waits.length≤m) (hm:m≤1000000) :
  Calls Tryz.prog 131 #[.pointer (some ⟨v,0,none⟩),.int .i64 d,x.val] w fun e w'=>∃y:Int,e=.returned (.int .i64 y)∧∃o' S',SuR S d (o d) (x.gen%2).toNat (Go.Proofs.YthhldceidmphfaaGreatDoor.S.encL ({ x with disk:=(d:Int) }:Go.Proofs.YthhldceidmphfaaGreatDoor.S.Sup).nums) y o' S'∧VGoes B W w w' v p t n mo mu s base a (put1 o d o') g S' F:=by
 obtain ⟨hg1,-⟩:=Go.Proofs.YthhldceidmphfaaGreatDoor.S.right_parts hr
 obtain ⟨x0,x1,x2,x3,x4,x5,x6,x7⟩:=x
 simp only at hr hg1 ⊢
 obtain ⟨K,hK,hK2⟩:∃K:Nat,x0%2=(K:Int)∧K<2:=⟨(x0%2).toNat,by omega,by omega⟩
 have hKn:(x0%2).toNat=K:=by omega
 rw [hKn]
 have HSL:=Lib.hid (fun w=>Go.Proofs.YthhldceidmphfaaGreatDoor.S.slot_any x0 w (by omega) (by omega))
 rw [hK] at HSL
 have hlt:=with_lt (h.ds.dv hd)
 have hvl:=h.vol.vlt
 have htl:=h.vol.tlt
 have hr1:(w.alloc (.cells #[.int .i64 x0,.int .i64 x1,.int .i64 (d:Int),.int .i64 x3,.int .i64 x4,.int .i64 x5,.int .i64 x6,.int .i64 x7] 65)).heap[w.heap.size]?=some (.cells (⟨x0,x1,(d:Int),x3,x4,x5,x6,x7⟩:Go.Proofs.YthhldceidmphfaaGreatDoor.S.Sup).cells 65 (0,0)):=heap_alloc_new w _
 have hb1:Below w.heap.size w (w.alloc (.cells #[.int .i64 x0,.int .i64 x1,.int .i64 (d:Int),.int .i64 x3,.int .i64 x4,.int .i64 x5,.int .i64 x6,.int .i64 x7] 65)):=(Below.refl _ w).alloc (Nat.le_refl _) _
 have HR1:=Lib.hid hr1
 have HB1:=Lib.hid hb1
 have HQ:Hid (∀b,With F (a d) b→b≠v∧b≠t∧b≠w.heap.size):=Lib.hid fun b e=>by
  have h1:=hlt b e
  have h2:=h.apart b (e.imp id fun e=>⟨d,hd,e⟩)
  exact ⟨h2.1,h2.2.1,by omega⟩
 obtain ⟨c0,c1,c2,c3,c4,c5,c6,c7⟩:=sup_cells hr1
 simp only at c0 c1 c2 c3 c4 c5 c6 c7
 have HV:=Lib.hid h
 have HR:=Lib.hid hr
 have HJ:=Lib.hid (show d<S.disks.length by rw [hn];exact hd)
 have HLT:=Lib.hid hlt
 have j0:=fun (W':World) (h:SayS v p t n mo mu s base a g w.heap.size ⟨x0,x1,(d:Int),x3,x4,x5,x6,x7⟩ W')=>h.1.c10
 have j1:=fun (W':World) (h:SayS v p t n mo mu s base a g w.heap.size ⟨x0,x1,(d:Int),x3,x4,x5,x6,x7⟩ W')=>h.1.dev hd
 have j2:=fun (W':World) (h:SayS v p t n mo mu s base a g w.heap.size ⟨x0,x1,(d:Int),x3,x4,x5,x6,x7⟩ W')=>h.1.log hd
 have j3:=fun (W':World) (h:SayS v p t n mo mu s base a g w.heap.size ⟨x0,x1,(d:Int),x3,x4,x5,x6,x7⟩ W')=>show W'.cell? ⟨w.heap.size,0,none⟩=some (.int .i64 x0) from (sup_cells h.2).1
 have h17:n≤17:=by
  obtain ⟨D,gs,q⟩:=h.ds.on.shelf
  have:=q.most
  omega
 clear h hr hr1 hb1 hlt
 unfold Go.Proofs.YthhldceidmphfaaGreatDoor.S.Sup.val
 simp only [Go.Proofs.YthhldceidmphfaaGreatDoor.S.Sup.cells]
 go_enter Tryz.func131,Tryz.ntmps131
 go_wp2_with fail
 generalize (w.alloc (.cells #[.int .i64 x0,.int .i64 x1,.int .i64 (d:Int),.int .i64 x3,.int .i64 x4,.int .i64 x5,.int .i64 x6,.int .i64 x7] 65))=w1 at *
 have V1:=HV.out.grown HB1.out
 refine (Go.Proofs.YthhldceidmphfaaGreatDoor.S.encode_ok ⟨x0,x1,(d:Int),x3,x4,x5,x6,x7⟩ w1 HR.out (hT.below hTB V1.ds.on.bel) (hWi.below hWB V1.ds.on.bel)).mono ?_
 rintro e w2 ⟨g2,rfl,ho,hb2⟩
 have b2:Below w.heap.size w w2.drew:=(HB1.out.trans (hb2.mono HB1.out.size)).drew
 have V2:=HV.out.grown b2
 have hS2:SayS v p t n mo mu s base a g w.heap.size ⟨x0,x1,(d:Int),x3,x4,x5,x6,x7⟩ w2.drew:=⟨V2.vol,(hb2.block w.heap.size (lt_of_block HR1.out)).trans HR1.out⟩
 have hbs:Sh.Beside w2.drew (With F (a d)) (some ⟨g2,0,none⟩) (Go.Proofs.YthhldceidmphfaaGreatDoor.S.encL (⟨x0,x1,(d:Int),x3,x4,x5,x6,x7⟩:Go.Proofs.YthhldceidmphfaaGreatDoor.S.Sup).nums):=⟨Sh.Reads.of_own (w:=w2) ho,fun z hz e=>by
  injection hz with hz
  subst hz
  have:g2<w.heap.size:=HLT.out g2 e
  have:w1.heap.size≤g2:=(ho.lt g2 rfl).1
  have:=HB1.out.size
  omega⟩
 have HSU:=Lib.hid (sureR_any (c:=128) (V2.ds.dv hd) hT hTB HJ.out K (by omega) _ ⟨Go.Proofs.YthhldceidmphfaaGreatDoor.S.encL_length _,Go.Proofs.YthhldceidmphfaaGreatDoor.S.encL_small _⟩ hbs hL hm (g d))
 have KEEP:=Lib.hid (And.intro V2 b2)
 have hS3:=Lib.hid hS2
 clear V1 V2 hbs hS2 ho hb2 b2 c0 c1 c2 c3 c4 c5 c6 c7
 generalize hle:Go.Proofs.YthhldceidmphfaaGreatDoor.S.encL (⟨x0,x1,(d:Int),x3,x4,x5,x6,x7⟩:Go.Proofs.YthhldceidmphfaaGreatDoor.S.Sup).nums=l at *
 have HLE:=Lib.hid hle
 clear hle
 go_wp2_with fail
 refine wp_region_held_drew (S:=SayS v p t n mo mu s base a g w.heap.size ⟨x0,x1,(d:Int),x3,x4,x5,x6,x7⟩) (by kernel_rfl) hS3.out (fun hHeld=>?_)
 refine tk 0 19 ?_
 refine tk 1 20 ?_
 refine tk 2 21 ?_
 refine tk 3 22 ?_
 refine tk 4 23 ?_
 refine tk 5 24 ?_
 refine tk 6 25 ?_
 refine tk 7 26 ?_
 refine tk 8 27 ?_
 refine tk 10 29 ?_
 refine r1 9 (some 28) fun K hK=>?_
 go_simp
 refine (HSL.out _).mono ?_
 rintro e w' ⟨rfl,rfl⟩
 refine hK.out _ _ (hHeld) (fun hHeld=>?_)
 clear hK K
 try simp only [Act.put,List.setIfInBounds_toArray,List.set_cons_zero,List.set_cons_succ]
 refine r1 11 (some 30) fun K hK=>?_
 go_simp
 refine (HSU.out).mono ?_
 rintro e w4 ⟨y,rfl,o4,S4,hSu,hG⟩
 refine hK.out _ _ (sayS_moves hHeld HQ.out hG) (fun hHeld=>?_)
 clear hK K
 try simp only [Act.put,List.setIfInBounds_toArray,List.set_cons_zero,List.set_cons_succ]
 refine tk 12 6 ?_
 refine wpAnyH_done (by kernel_rfl) ?_ _
 go_wp2
 go_ret
 exact ⟨y,rfl,o4,S4,by rw [HLE.out];exact hSu,VGoes.trans (F':=F) ⟨⟨KEEP.out.2.os,KEEP.out.2.tape,KEEP.out.2.output,KEEP.out.2.size,fun k hk _=>KEEP.out.2.block k hk⟩,fun _ hb=>.inl hb⟩ (KEEP.out.1.goes (KEEP.out.1.ds.goes hd hG))⟩
end
def alikeB (a b:Go.Proofs.YthhldceidmphfaaGreatDoor.S.Sup):Bool:=a.gen == b.gen && (a.mem == b.mem && (a.str == b.str && (a.logs == b.logs && (a.spare == b.spare && (a.mark == b.mark && a.cur == b.cur)))))
inductive AgStep (x:Go.Proofs.YthhldceidmphfaaGreatDoor.S.Sup) (k d:Nat) (a:Stt):Int→Stt→Prop
 | says (S1:Sh.Sf) (y:Go.Proofs.YthhldceidmphfaaGreatDoor.S.Sup):Same a.S S1→sayO a.S d k=some y→alikeB y x=true→AgStep x k d a 0 ⟨S1,a.o⟩
 | other (S1:Sh.Sf) (z o':Int) (S':Sh.Sf):Same a.S S1→(∀y,sayO a.S d k=some y→alikeB y x=false)→SuR S1 d (a.o d) k (Go.Proofs.YthhldceidmphfaaGreatDoor.S.encL ({ x with disk:=(d:Int) }:Go.Proofs.YthhldceidmphfaaGreatDoor.S.Sup).nums) z o' S'→AgStep x k d a (bd z) ⟨S',put1 a.o d o'⟩
inductive AgSteps (x:Go.Proofs.YthhldceidmphfaaGreatDoor.S.Sup) (k:Nat):Nat→Stt→Stt→Prop
 | nil (a:Stt):AgSteps x k 0 a a
 | snoc {j:Nat} {a b c:Stt}:AgSteps x k j a b→AgStep x k j b 0 c→AgSteps x k (j+1) a c
def AgR (n:Nat) (x:Go.Proofs.YthhldceidmphfaaGreatDoor.S.Sup) (k:Nat) (a:Stt) (y:Int) (b:Stt):Prop :=
 (y=0∧AgSteps x k n a b)∨(y≠0∧∃j c,j<n∧AgSteps x k j a c∧AgStep x k j c y b)
structure AgKeep (S T:Sh.Sf) (j:Nat):Prop where
 dk:∀d,j≤d→U.dk T d=U.dk S d
 len:T.disks.length=S.disks.length
 sectors:T.sectors=S.sectors
 on:T.off=false→S.off=false
theorem why_on {S:Sh.Sf} {d:Nat} (h:Sh.why S d=0):S.off=false:=by
 unfold Sh.why at h
 by_cases e:S.off=true
 ·rw [if_pos e] at h;exact absurd h (by decide)
 ·simpa using e
theorem DW.on {S S':Sh.Sf} {d k:Nat} {o y o':Int} {b:Sh.Bs} (h:DW S d o k b y o' S') (e:S'.off=false):S.off=false:=by
 rcases h with ⟨_,_,_,rfl⟩ | ⟨hw,_⟩
 ·exact e
 ·exact why_on hw
theorem fl_on2 {S:Sh.Sf} {d:Nat} (e:(Fl S d).off=false):S.off=false:=by
 by_cases hw:Sh.why S d=0
 ·exact why_on hw
 ·rw [fl_why hw] at e;exact e
theorem SuR.on {S S':Sh.Sf} {d k:Nat} {o y o':Int} {b:Sh.Bs} (h:SuR S d o k b y o' S') (e:S'.off=false):S.off=false:=by
 obtain ⟨_,_,_,h1,⟨_,_,_,rfl⟩ | ⟨_,_,_,rfl⟩⟩:=h
 ·exact h1.on e
 ·exact h1.on (fl_on2 e)
theorem AgStep.keep {x:Go.Proofs.YthhldceidmphfaaGreatDoor.S.Sup} {k d:Nat} {a b:Stt} {y:Int} (h:AgStep x k d a y b):AgKeep a.S b.S (d+1):=by
 cases h with
 | says S1 y hs _ _=>exact ⟨fun e _=>by show U.dk S1 e=_;unfold U.dk;rw [hs.disks],hs.len,hs.sectors,fun e=>hs.off.symm.trans e⟩
 | other S1 z o' S' hs _ hu=>exact ⟨fun e he=>(hu.alike.2 e (by omega)).trans (by rw [hs.disks];rfl),hu.len.trans hs.len,hu.sectors.trans hs.sectors,fun e=>hs.off.symm.trans (hu.on e)⟩
theorem AgStep.waits {x:Go.Proofs.YthhldceidmphfaaGreatDoor.S.Sup} {k d m:Nat} {a b:Stt} {y:Int} (h:AgStep x k d a y b) (hL:∀x∈a.S.disks,x.waits.length≤m):∀x∈b.S.disks,x.waits.length≤m+3:=by
 cases h with
 | says S1 y hs _ _ =>
  intro x hx
  have hx:x∈S1.disks:=hx
  rw [hs.disks] at hx
  have:=hL x hx
  omega
 | other S1 z o' S' hs _ hu=>exact hu.waits (by rw [hs.disks];exact hL)
theorem AgSteps.keep {x:Go.Proofs.YthhldceidmphfaaGreatDoor.S.Sup} {k j:Nat} {a b:Stt} (h:AgSteps x k j a b):AgKeep a.S b.S j:=by
 induction h with
 | nil=>exact ⟨fun _ _=>rfl,rfl,rfl,id⟩
 | snoc _ h2 ih =>
  have k2:=h2.keep
  exact ⟨fun d hd=>(k2.dk d hd).trans (ih.dk d (by omega)),k2.len.trans ih.len,k2.sectors.trans ih.sectors,fun e=>ih.on (k2.on e)⟩
theorem AgSteps.waits {x:Go.Proofs.YthhldceidmphfaaGreatDoor.S.Sup} {k j m:Nat} {a b:Stt} (h:AgSteps x k j a b) (hL:∀x∈a.S.disks,x.waits.length≤m):∀x∈b.S.disks,x.waits.length≤m+3*j:=by
 induction h with
 | nil=>simpa using hL
 | snoc _ h2 ih =>
  intro x hx
  have:=h2.waits (ih hL) x hx
  omega
theorem sayO_keep {S T:Sh.Sf} {d b:Nat} (hd:dk T d=dk S d) (ho:T.off=false→S.off=false) {x:Go.Proofs.YthhldceidmphfaaGreatDoor.S.Sup} (h:sayO T d b=some x):sayO S d b=some x:=by
 have hV:∀m,V T d m=V S d m:=fun m=>by unfold V;have:=hd;unfold dk at this;rw [this]
 have hg:goodAt T d b=goodAt S d b:=by unfold goodAt;rw [hV,hV]
 unfold sayO at h ⊢
 by_cases hc:rdY T d b=0∧Go.Proofs.YthhldceidmphfaaGreatDoor.S.okD (V T d (dataOf b))=true
 ·rw [if_pos hc] at h
  have hw:Sh.why T d=0:=by
   have h0:=hc.1
   unfold rdY at h0
   by_cases e:Sh.why T d=0
   ·exact e
   ·rw [if_neg e] at h0;exact absurd h0 e
  have hw2:Sh.why S d=0:=by
   have hon:=ho (why_on hw)
   have hdd:(S.disks.getD d default).dead=(T.disks.getD d default).dead:=by have:=hd;unfold dk at this;rw [this]
   unfold Sh.why at hw ⊢
   rw [hon,hdd]
   rw [why_on (by unfold Sh.why;exact hw)] at hw
   exact hw
  have hr:rdY S d b=0:=by
   have h0:=hc.1
   unfold rdY at h0 ⊢
   rw [if_pos hw,hg] at h0
   rw [if_pos hw2]
   exact h0
  rw [if_pos ⟨hr,by rw [← hV];exact hc.2⟩,← hV]
  exact h
 ·rw [if_neg hc] at h;cases h
section
variable {B:Nat} {W w w':World} {v p t n mo mu:Nat} {s:Go.Proofs.YthhldceidmphfaaGreatDoor.S.Sup} {base:Int} {a:Nat→Nat} {o:Nat→Int} {g:Nat→Option Addr} {S S':Sh.Sf} {F:Nat→Prop}
def AgRel (B:Nat) (W w:World) (v p t n mo mu:Nat) (s:Go.Proofs.YthhldceidmphfaaGreatDoor.S.Sup) (base:Int) (a:Nat→Nat) (o:Nat→Int) (g:Nat→Option Addr) (S:Sh.Sf) (F:Nat→Prop) (x:Go.Proofs.YthhldceidmphfaaGreatDoor.S.Sup) (k j:Nat) (wr:World):Prop :=
 ∃(b:Stt) (F1:Nat→Prop),AgSteps x k j ⟨S,o⟩ b∧Vo B W wr v p t n mo mu s base a b.o g b.S F1∧Sh.Moves (AllB F a n) w (AllB F1 a n) wr∧wr.heap[w.heap.size]?=some (.cells x.cells 65 (0,0))∧¬AllB F1 a n w.heap.size
def AgQ (B:Nat) (W w:World) (v p t n mo mu:Nat) (s:Go.Proofs.YthhldceidmphfaaGreatDoor.S.Sup) (base:Int) (a:Nat→Nat) (o:Nat→Int) (g:Nat→Option Addr) (S:Sh.Sf) (F:Nat→Prop) (x:Go.Proofs.YthhldceidmphfaaGreatDoor.S.Sup) (k:Nat) (e:Ending) (w':World):Prop :=
 ∃(y:Int) (b:Stt) (F1:Nat→Prop),e=.returned (.int .i64 y)∧AgR n x k ⟨S,o⟩ y b∧Vo B W w' v p t n mo mu s base a b.o g b.S F1∧Sh.Moves (AllB F a n) w (AllB F1 a n) w'
theorem moves_up {G:Nat→Prop} (hb:Below w.heap.size w w'):Sh.Moves G w G w':=⟨⟨hb.os,hb.tape,hb.output,hb.size,fun k hk _=>hb.block k hk⟩,fun _ hb=>.inl hb⟩
set_option maxRecDepth 20000 in
set_option maxHeartbeats 4000000 in
theorem agree_any (h:Vo B W w v p t n mo mu s base a o g S F) (hT:Tabs W) (hTB:max 1 2+1≤B) (hWi:Go.Proofs.YthhldceidmphfaaGreatDoor.S.Wid W) (hWB:0+1≤B)
  (hn:S.disks.length=n) (hbb:2≤blk S.sectors) (x:Go.Proofs.YthhldceidmphfaaGreatDoor.S.Sup) (k:Nat) (hk:x.gen%2=(k:Int)) (hg:1≤x.gen∧x.gen≤4611686018427387904) (hr:∀d,d<n→({ x with disk:=(d:Int) }:Go.Proofs.YthhldceidmphfaaGreatDoor.S.Sup).right=true)
  (hsay:∀d y,d<n→sayO S d k=some y→SayIs n (blk S.sectors) d k y) {m:Nat} (hL:∀k∈S.disks,k.waits.length≤m) (hm:m≤900000) :
  Calls Tryz.prog 88 #[.pointer (some ⟨v,0,none⟩),x.val] w (AgQ B W w v p t n mo mu s base a o g S F x k):=by
 have hb0:Below w.heap.size w (w.alloc (.cells x.cells 65)):=(Below.refl _ _).alloc (Nat.le_refl _) _
 have h0:=heap_alloc_new w (.cells x.cells 65)
 have V0:=h.grown hb0
 have c10:=V0.vol.c10
 have h17:n≤17:=by
  obtain ⟨D0,gs,q⟩:=h.ds.on.shelf
  have:=q.most
  omega
 have hk2:k<2:=by omega
 have HH:=Lib.hid (And.intro h (And.intro hn (And.intro hbb (And.intro hr (And.intro hsay hL)))))
 have hn0:¬AllB F a n w.heap.size:=fun e=>Nat.lt_irrefl _ (h.ds.lt _ e)
 have hrel0:Hid (AgRel B W w v p t n mo mu s base a o g S F x k 0 (w.alloc (.cells x.cells 65))):=Lib.hid ⟨⟨S,o⟩,F,.nil _,V0,moves_up hb0,h0,hn0⟩
 have HG:=Lib.hid (And.intro hk hg)
 clear h hn hbb hr hsay hL V0 h0 hb0 hn0 hk hg
 obtain ⟨x0,x1,x2,x3,x4,x5,x6,x7⟩:=x
 have hx0:=HG.out.2
 have hxk:=HG.out.1
 simp only at hx0 hxk
 have HSL:=Lib.hid (fun w=>Go.Proofs.YthhldceidmphfaaGreatDoor.S.slot_any x0 w (by omega) (by omega))
 rw [hxk] at HSL
 clear hx0 hxk
 unfold Go.Proofs.YthhldceidmphfaaGreatDoor.S.Sup.val
 simp only [Go.Proofs.YthhldceidmphfaaGreatDoor.S.Sup.cells] at c10 hrel0 ⊢
 go_enter Tryz.func88,Tryz.ntmps88
 go_wp2
 clear c10
 go_loopw [14] (fun i wr=>∃j:Nat,j≤n∧i=.int .i64 j∧Hid (AgRel B W w v p t n mo mu s base a o g S F ⟨x0,x1,x2,x3,x4,x5,x6,x7⟩ k j wr)) (fun i _=>n-(intOf i).toNat)
 case atStart=>exact ⟨0,Nat.zero_le _,rfl,hrel0⟩
 case round =>
  obtain ⟨j,hj,rfl,hrel⟩:=hrel
  by_cases hlt:j<n
  ·obtain ⟨b,F1,hst,V1,M1,hq,hnq⟩:=hrel.out
   have hkp:=hst.keep
   obtain ⟨k0,k1,k2,k3,k4,k5,k6,k7,_⟩:=Go.Proofs.YthhldceidmphfaaGreatDoor.S.cells8_of hq
   have HSY:=Lib.hid (saying_any V1 hT hTB hWi hWB (hkp.len.trans HH.out.2.1) j k hlt hk2 (by rw [hkp.sectors];exact HH.out.2.2.1) (fun y hy=>by rw [hkp.sectors];exact HH.out.2.2.2.2.1 j y hlt (sayO_keep (hkp.dk j (Nat.le_refl j)) hkp.on hy)))
   have HK:=Lib.hid (And.intro hst (And.intro V1 (And.intro M1 (And.intro hq hnq))))
   have HKP:=Lib.hid hkp
   have HLT:=Lib.hid (fun b (e:F1 b)=>V1.ds.lt b (.inl e))
   clear hst V1 M1 hq hnq hkp hrel hrel0
   generalize hso:sayO b.S j k=so at *
   have HSO:=Lib.hid hso
   clear hso
   go_wp2_with (go_at_call 34;refine (HSL.out _).mono ?_;rintro e w' ⟨rfl,rfl⟩)
   refine HSY.out.mono ?_
   rintro e w2 ⟨z,b2,rfl,hb1,hbn,S2,s2,V2,O2⟩
   obtain ⟨z0,z1,z2,z3,z4,z5,z6,z7⟩:=z
   have hb3:Below w2.heap.size w2 (w2.alloc (.cells #[.int .i64 z0,.int .i64 z1,.int .i64 z2,.int .i64 z3,.int .i64 z4,.int .i64 z5,.int .i64 z6,.int .i64 z7] 65)):=(Below.refl _ _).alloc (Nat.le_refl _) _
   have hqr:=HK.out.2.2.2.1
   have hq2:=(O2.block w.heap.size (lt_of_block hqr) (fun e=>HK.out.2.2.2.2 (.inl e))).trans hqr
   have hq3:=(hb3.block w.heap.size (lt_of_block hq2)).trans hq2
   obtain ⟨k0,k1,k2,k3,k4,k5,k6,k7,_⟩:=Go.Proofs.YthhldceidmphfaaGreatDoor.S.cells8_of hq3
   obtain ⟨l0,l1,l2,l3,l4,l5,l6,l7,_⟩:=Go.Proofs.YthhldceidmphfaaGreatDoor.S.cells8_of (heap_alloc_new w2 (.cells #[.int .i64 z0,.int .i64 z1,.int .i64 z2,.int .i64 z3,.int .i64 z4,.int .i64 z5,.int .i64 z6,.int .i64 z7] 65))
   have HS2:=Lib.hid (And.intro s2 V2)
   have hM2:Sh.Moves (AllB F1 a n) wr (AllB F1 a n) w2:=⟨O2.mono fun b e=>.inl e,fun _ e=>.inl e⟩
   have HB3:=Lib.hid (And.intro hb3 (And.intro hq2 hM2))
   have hKK:(x0%2).toNat=k:=by have:=HG.out.1;omega
   have HKK:=Lib.hid hKK
   have say4:∀w4,Below w2.heap.size w2 w4→Calls Tryz.prog 131 #[.pointer (some ⟨v,0,none⟩),.int .i64 j,.agg #[.int .i64 x0,.int .i64 x1,.int .i64 x2,.int .i64 x3,.int .i64 x4,.int .i64 x5,.int .i64 x6,.int .i64 x7]] w4 fun e w'=>∃y:Int,e=.returned (.int .i64 y)∧∃o' S',SuR S2 j (b.o j) (x0%2).toNat (Go.Proofs.YthhldceidmphfaaGreatDoor.S.encL (⟨x0,x1,(j:Int),x3,x4,x5,x6,x7⟩:Go.Proofs.YthhldceidmphfaaGreatDoor.S.Sup).nums) y o' S'∧VGoes B W w4 w' v p t n mo mu s base a (put1 b.o j o') g S' F1:=fun w4 hb4 =>
    sayOn_rel (V2.grown hb4) hT hTB hWi hWB j hlt ⟨x0,x1,x2,x3,x4,x5,x6,x7⟩ (HH.out.2.2.2.1 j hlt) (s2.len.trans (HKP.out.len.trans HH.out.2.1)) (by rw [s2.sectors,HKP.out.sectors];exact HH.out.2.2.1) (m:=m+3*n) (fun q hq=>by
     rw [s2.disks] at hq
     have:=HK.out.1.waits HH.out.2.2.2.2.2 q hq
     omega) (by omega)
   have HSA:=Lib.hid say4
   clear say4 s2 V2 O2 hq2 hq3 hqr hM2 hb3 hKK
   cases b2
   ·have hnone:=hbn rfl
    have HNO:=Lib.hid (show ∀y,sayO b.S j k=some y→alikeB y ⟨x0,x1,x2,x3,x4,x5,x6,x7⟩=false from fun y hy=>by rw [HSO.out,hnone] at hy;cases hy)
    have HSN:=Lib.hid (HSA.out _ HB3.out.1)
    have HM4:Hid (Sh.Moves (AllB F1 a n) wr (AllB F1 a n) (w2.alloc (.cells #[.int .i64 z0,.int .i64 z1,.int .i64 z2,.int .i64 z3,.int .i64 z4,.int .i64 z5,.int .i64 z6,.int .i64 z7] 65))):=Lib.hid (HB3.out.2.2.trans (moves_up HB3.out.1))
    have HQ4:Hid ((w2.alloc (.cells #[.int .i64 z0,.int .i64 z1,.int .i64 z2,.int .i64 z3,.int .i64 z4,.int .i64 z5,.int .i64 z6,.int .i64 z7] 65)).heap[w.heap.size]?=some (.cells #[.int .i64 x0,.int .i64 x1,.int .i64 x2,.int .i64 x3,.int .i64 x4,.int .i64 x5,.int .i64 x6,.int .i64 x7] 65 (0,0))∧¬AllB F1 a n w.heap.size):=Lib.hid ⟨(HB3.out.1.block w.heap.size (lt_of_block HB3.out.2.1)).trans HB3.out.2.1,HK.out.2.2.2.2⟩
    clear hnone hb1 hbn HSA HSY
    unfold Go.Proofs.YthhldceidmphfaaGreatDoor.S.Sup.val
    simp only [Go.Proofs.YthhldceidmphfaaGreatDoor.S.Sup.cells]
    go_wp2_with fail
    generalize w2.alloc (.cells #[.int .i64 z0,.int .i64 z1,.int .i64 z2,.int .i64 z3,.int .i64 z4,.int .i64 z5,.int .i64 z6,.int .i64 z7] 65)=w4 at *
    clear k0 k1 k2 k3 k4 k5 k6 k7 l0 l1 l2 l3 l4 l5 l6 l7
    refine HSN.out.mono ?_
    rintro e w5 ⟨y0,rfl,o5,S5,hSu,F5,V5,m5⟩
    rw [HKK.out] at hSu
    have hbe:=butDead_any y0
    have HST:Hid (AgStep ⟨x0,x1,x2,x3,x4,x5,x6,x7⟩ k j b (bd y0) ⟨S5,put1 b.o j o5⟩):=Lib.hid (.other S2 y0 o5 S5 HS2.out.1 HNO.out hSu)
    have hM5:=HK.out.2.2.1.trans ((show Sh.Moves (AllB F1 a n) wr (AllB F1 a n) w4 from HM4.out).trans m5)
    have hq4l:=lt_of_block HQ4.out.1
    have hq5:=(m5.1.block w.heap.size hq4l HQ4.out.2).trans HQ4.out.1
    have hn5:¬AllB F5 a n w.heap.size:=fun e=>(m5.2 _ e).elim HQ4.out.2 (fun e=>by omega)
    have HV5:=Lib.hid (And.intro V5 (And.intro hM5 (And.intro hq5 hn5)))
    clear hSu V5 m5 hM5 hq4l hq5 hn5 HSN
    generalize bd y0=yb at *
    by_cases hy:yb=0
    ·subst hy
     have HR:Hid (AgRel B W w v p t n mo mu s base a o g S F ⟨x0,x1,x2,x3,x4,x5,x6,x7⟩ k (j+1) w5):=Lib.hid ⟨⟨S5,put1 b.o j o5⟩,F5,.snoc HK.out.1 HST.out,HV5.out.1,HV5.out.2.1,HV5.out.2.2.1,HV5.out.2.2.2⟩
     clear HV5 HST
     go_wp2_with (go_at_call 105;refine (hbe _).mono ?_;rintro e w' ⟨rfl,rfl⟩)
     go_roundw
     case rel=>exact ⟨j+1,by omega,by go_num,HR⟩
     case measure=>simp [intOf];omega
    ·have hqn:(yb == 0)=false:=by simpa using hy
     have HAG:Hid (AgR n ⟨x0,x1,x2,x3,x4,x5,x6,x7⟩ k ⟨S,o⟩ yb ⟨S5,put1 b.o j o5⟩):=Lib.hid (.inr ⟨hy,j,b,hlt,HK.out.1,HST.out⟩)
     clear HST hy
     go_wp2_with (go_at_call 105;refine (hbe _).mono ?_;rintro e w' ⟨rfl,rfl⟩)
     go_ret
     exact ⟨yb,_,F5,rfl,HAG.out,HV5.out.1,HV5.out.2.1⟩
   ·have hsome:=hb1 rfl
    have HAL:=Lib.hid (fun w=>alike_any z0 z1 z2 z3 z4 z5 z6 z7 x0 x1 x2 x3 x4 x5 x6 x7 w)
    have hAB:(z0 == x0 && (z1 == x1 && (z3 == x3 && (z4 == x4 && (z5 == x5 && (z6 == x6 && z7 == x7))))))=alikeB ⟨z0,z1,z2,z3,z4,z5,z6,z7⟩ ⟨x0,x1,x2,x3,x4,x5,x6,x7⟩:=rfl
    rw [hAB] at HAL
    have HSS:Hid (sayO b.S j k=some ⟨z0,z1,z2,z3,z4,z5,z6,z7⟩):=Lib.hid (HSO.out.trans hsome)
    clear hAB hsome hb1 hbn HSY
    generalize hal:alikeB ⟨z0,z1,z2,z3,z4,z5,z6,z7⟩ ⟨x0,x1,x2,x3,x4,x5,x6,x7⟩=al at *
    have HLA:=Lib.hid hal
    clear hal
    unfold Go.Proofs.YthhldceidmphfaaGreatDoor.S.Sup.val
    simp only [Go.Proofs.YthhldceidmphfaaGreatDoor.S.Sup.cells]
    go_wp2_with fail
    generalize hw3:w2.alloc (.cells #[.int .i64 z0,.int .i64 z1,.int .i64 z2,.int .i64 z3,.int .i64 z4,.int .i64 z5,.int .i64 z6,.int .i64 z7] 65)=w3 at *
    refine (HAL.out w3).mono ?_
    rintro e w4 ⟨rfl,hb4⟩
    have hb24:=HB3.out.1.trans (hb4.mono HB3.out.1.size)
    have hq4:=(hb24.block w.heap.size (lt_of_block HB3.out.2.1)).trans HB3.out.2.1
    clear k0 k1 k2 k3 k4 k5 k6 k7 l0 l1 l2 l3 l4 l5 l6 l7 hw3
    obtain ⟨k0,k1,k2,k3,k4,k5,k6,k7,_⟩:=Go.Proofs.YthhldceidmphfaaGreatDoor.S.cells8_of hq4
    have HSN:=Lib.hid (HSA.out _ hb24)
    have HM4:Hid (Sh.Moves (AllB F1 a n) wr (AllB F1 a n) w4):=Lib.hid (HB3.out.2.2.trans (moves_up hb24))
    have HQ4:Hid (w4.heap[w.heap.size]?=some (.cells #[.int .i64 x0,.int .i64 x1,.int .i64 x2,.int .i64 x3,.int .i64 x4,.int .i64 x5,.int .i64 x6,.int .i64 x7] 65 (0,0))∧¬AllB F1 a n w.heap.size):=Lib.hid ⟨hq4,HK.out.2.2.2.2⟩
    have HV4:=Lib.hid (HS2.out.2.grown hb24)
    clear hb4 hb24 hq4 HSA HAL HB3
    cases al
    ·have HNO:=Lib.hid (show ∀y,sayO b.S j k=some y→alikeB y ⟨x0,x1,x2,x3,x4,x5,x6,x7⟩=false from fun y hy=>by
      rw [HSS.out] at hy
      injection hy with hy
      rw [← hy]
      exact HLA.out)
     go_wp2_with fail
     clear k0 k1 k2 k3 k4 k5 k6 k7
     refine HSN.out.mono ?_
     rintro e w5 ⟨y0,rfl,o5,S5,hSu,F5,V5,m5⟩
     rw [HKK.out] at hSu
     have hbe:=butDead_any y0
     have HST:Hid (AgStep ⟨x0,x1,x2,x3,x4,x5,x6,x7⟩ k j b (bd y0) ⟨S5,put1 b.o j o5⟩):=Lib.hid (.other S2 y0 o5 S5 HS2.out.1 HNO.out hSu)
     have hM5:=HK.out.2.2.1.trans ((show Sh.Moves (AllB F1 a n) wr (AllB F1 a n) w4 from HM4.out).trans m5)
     have hq4l:=lt_of_block HQ4.out.1
     have hq5:=(m5.1.block w.heap.size hq4l HQ4.out.2).trans HQ4.out.1
     have hn5:¬AllB F5 a n w.heap.size:=fun e=>(m5.2 _ e).elim HQ4.out.2 (fun e=>by omega)
     have HV5:=Lib.hid (And.intro V5 (And.intro hM5 (And.intro hq5 hn5)))
     clear hSu V5 m5 hM5 hq4l hq5 hn5 HSN
     generalize bd y0=yb at *
     by_cases hy:yb=0
     ·subst hy
      have HR:Hid (AgRel B W w v p t n mo mu s base a o g S F ⟨x0,x1,x2,x3,x4,x5,x6,x7⟩ k (j+1) w5):=Lib.hid ⟨⟨S5,put1 b.o j o5⟩,F5,.snoc HK.out.1 HST.out,HV5.out.1,HV5.out.2.1,HV5.out.2.2.1,HV5.out.2.2.2⟩
      clear HV5 HST
      go_wp2_with (go_at_call 105;refine (hbe _).mono ?_;rintro e w' ⟨rfl,rfl⟩)
      go_roundw
      case rel=>exact ⟨j+1,by omega,by go_num,HR⟩
      case measure=>simp [intOf];omega
     ·have hqn:(yb == 0)=false:=by simpa using hy
      have HAG:Hid (AgR n ⟨x0,x1,x2,x3,x4,x5,x6,x7⟩ k ⟨S,o⟩ yb ⟨S5,put1 b.o j o5⟩):=Lib.hid (.inr ⟨hy,j,b,hlt,HK.out.1,HST.out⟩)
      clear HST hy
      go_wp2_with (go_at_call 105;refine (hbe _).mono ?_;rintro e w' ⟨rfl,rfl⟩)
      go_ret
      exact ⟨yb,_,F5,rfl,HAG.out,HV5.out.1,HV5.out.2.1⟩
    ·have HR:Hid (AgRel B W w v p t n mo mu s base a o g S F ⟨x0,x1,x2,x3,x4,x5,x6,x7⟩ k (j+1) w4):=Lib.hid ⟨⟨S2,b.o⟩,F1,.snoc HK.out.1 (.says S2 _ HS2.out.1 HSS.out HLA.out),HV4.out,HK.out.2.2.1.trans HM4.out,HQ4.out.1,HQ4.out.2⟩
     clear HSN k0 k1 k2 k3 k4 k5 k6 k7
     go_wp2
     go_roundw
     case rel=>exact ⟨j+1,by omega,by go_num,HR⟩
     case measure=>simp [intOf];omega
  ·obtain rfl:j=n:=by omega
   obtain ⟨b,F1,hst,V1,M1,hq,hnq⟩:=hrel.out
   have HR:=Lib.hid (And.intro hst (And.intro V1 M1))
   clear hst V1 M1 hq hnq hrel hrel0
   go_wp2
   go_ret
   exact ⟨0,b,F1,rfl,.inl ⟨rfl,HR.out.1⟩,HR.out.2.1,HR.out.2.2⟩
end
end Go.Proofs.YthhldceidmphfaaGreatDoor.U
