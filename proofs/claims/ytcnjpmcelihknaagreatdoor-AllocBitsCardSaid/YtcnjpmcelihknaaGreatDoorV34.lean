/-
  What the statement's proof rests on, part 34.
  Conditions: each theorem's own.
-/
import Derived.Lib.AppendZerosOnto
import Derived.Lib.SliceRun
import Derived.Test.YtcnjpmcelihknaaGreatDoorV29
open Go.Lib (hid)
namespace Go.Proofs.YtcnjpmcelihknaaGreatDoor.Kj
open Go.RowKit Go.Maps
/-! ### []int -/
theorem grow_i (n:Nat) (h0:0<n) (hn:n<=1048576) (w:World):Calls Tryz.prog 116 #[.slice none 0 0,.int .i64 (n:Int)] w fun e w'=>∃v,e=.returned v/\w'.ownsRow w.heap.size 3 1 v 0 []/\Below w.heap.size w w':=by
 obtain ⟨i0,hi,hz0,hz1,hz2⟩:=info_parts info_i64
 have hrun:∀ty,(Builtin.append_ #[22,3] ty #[.slice none 0 0,.int .i64 (n:Int)]).run Tryz.prog w =
   .ok (.slice (some ⟨w.heap.size,0,none⟩) n (grownCap w n 0 3)) (w.drew.alloc (.cells (Builtin.zeroCells (Value.int .i64 0:Value).cells n++Builtin.zeroCells (Value.int .i64 0:Value).cells (grownCap w n 0 3-n)) 3)):=fun ty=>by
  have h:=Lib.run_append_grow_zeros w 22 3 ty 3 i0 (Value.int .i64 0) .i64 .i64 Tryz.underlying22 Tryz.underlying3 hi hz0 none 0 0 [] (run_firstCells_none w.drew i0.size 0 0 0) n h0 (by rw [hz1];decide) (by omega) (by omega) (by rw [hz2];omega) (growslice_fits (by omega) (by rw [hz2];omega))
  simp only [Nat.zero_add,Array.empty_append] at h
  exact h
 have hG:=grownCap_ge w n 0 3
 have hGm:=grownCap_le_maxLen w n 0 3 (by unfold maxLen;omega)
 have hcells:(Builtin.zeroCells (Value.int .i64 0:Value).cells n++Builtin.zeroCells (Value.int .i64 0:Value).cells (grownCap w n 0 3-n)).size=grownCap w n 0 3*1:=by
  have hs:∀k,(Builtin.zeroCells (Value.int .i64 0:Value).cells k).size=k:=fun k=>by
   unfold Builtin.zeroCells
   rw [Array.size_map,Array.size_range]
   have:(Value.int .i64 0:Value).cells.size=1:=rfl
   rw [this,Nat.mul_one]
  rw [Array.size_append,hs,hs];omega
 generalize Builtin.zeroCells (Value.int .i64 0:Value).cells n++Builtin.zeroCells (Value.int .i64 0:Value).cells (grownCap w n 0 3-n)=cs at *
 generalize grownCap w n 0 3=G at *
 have hn1:decide ((n:Int)<0)=false:=by simp
 have hn2:decide ((n:Int)>0)=true:=by simp;omega
 have HO:Hid ((w.drew.alloc (.cells cs 3)).ownsRow w.heap.size 3 1 (.slice (some ⟨w.heap.size,0,none⟩) 0 G) 0 []):=hid ⟨rfl,.inr ⟨w.heap.size,G,cs,rfl,Nat.le_refl _,heap_alloc_new w.drew _,Nat.zero_le _,hGm,hcells,rfl⟩⟩
 unfold maxLen at hGm
 clear hcells hi hz0 hz1 hz2
 go_enter Tryz.func116,Tryz.ntmps116
 go_wp2_with (at_builtin;refine Lib.wpList_append_run _ rfl _ _ _ _ rfl _ _ rfl rfl _ _ (hrun _) ?_)
 go_ret
 exact ⟨_,rfl,HO.out,(Below.refl _ _).drew.alloc (Nat.le_refl _) _⟩
def Parts_i (w:World) (vs:List Value) (ls:List (List Nat)):Prop:=vs.length=ls.length/\∀i,i<ls.length->∃A c,vs[i]?=some (.slice A (ls.getD i []).length c)/\0<(ls.getD i []).length/\Reads w w.heap.size A (ls.getD i []).length (numsV (ls.getD i []))
set_option maxRecDepth 20000 in
set_option maxHeartbeats 1000000 in
theorem concat_i (A:Option Addr) (N c:Nat) (vs:List Value) (ls:List (List Nat)) (w:World) (hN:0<N) (hNm:N<=1048576) (hr:Reads w w.heap.size A N vs) (hp:Parts_i w vs ls) (hs:ls.flatten.length<=1048576) :
  Calls Tryz.prog 62 #[.slice A N c] w fun e w'=>∃v,e=.returned v/\w'.ownsRow w.heap.size 3 1 v ls.flatten.length (numsV ls.flatten)/\Below w.heap.size w w':=by
 obtain ⟨i0,hi,hz0,hz1,hz2⟩:=info_parts info_i64
 have hlen:ls.length=N:=by rw [<- hp.1,hr.1]
 obtain ⟨ad,rfl,hab,hac⟩:=hr.2 hN
 have HV:Hid (∀k,k<N->∃A c,w.cell? (ad.add k)=some (.slice A (ls.getD k []).length c)/\0<(ls.getD k []).length/\Reads w w.heap.size A (ls.getD k []).length (numsV (ls.getD k []))):=hid fun k hk=>by
  obtain ⟨A,c,h1,h2,h3⟩:=hp.2 k (by omega)
  exact ⟨A,c,hac k _ h1,h2,h3⟩
 have HB:=hid hab
 have HF:Hid (∀k,k<N->((ls.take (k+1)).flatten=(ls.take k).flatten++ls.getD k [])/\(ls.take (k+1)).flatten.length<=ls.flatten.length):=hid fun k hk=>by
  have e:(ls.take (k+1)).flatten=(ls.take k).flatten++ls.getD k []:=by
   rw [List.take_succ_eq_append_getElem (by omega),List.flatten_append]
   simp [List.getD,show k<ls.length by omega]
  refine ⟨e,?_⟩
  have:(ls.take (k+1)).flatten++(ls.drop (k+1)).flatten=ls.flatten:=by rw [<- List.flatten_append,List.take_append_drop]
  rw [<- this,List.length_append];omega
 have HA:Hid ((ls.take N).flatten=ls.flatten):=hid (by rw [List.take_of_length_le (by omega)])
 have H0:Hid (0<ls.flatten.length):=hid (by
  obtain ⟨A,c,_,h2,_⟩:=hp.2 0 (by omega)
  have h3:=HF.out 0 hN
  have h4:(ls.take 0).flatten.length=0:=by simp
  have h5:=congrArg List.length h3.1
  rw [List.length_append,h4] at h5
  have h6:=h3.2
  rw [h5] at h6
  exact Nat.lt_of_lt_of_le h2 (by omega))
 have HG:=hid (fun (W:World)=>grow_i ls.flatten.length H0.out hs W)
 have HS:=hid hs
 clear hr hp hlen hac hab hs H0
 generalize hLL:ls.flatten.length=L at *
 have HLL:=hid hLL
 clear hLL
 go_enter Tryz.func62,Tryz.ntmps62
 go_wp2
 go_loopw [3,5,11] (fun s3 s5 s11 wr=>∃k:Nat,k<=N/\s11=.int .i64 k/\s3=.int .i64 (((ls.take k).flatten.length:Nat):Int)/\w=wr) (fun _ _ i _=>N-(intOf i).toNat)
 case atStart=>exact ⟨0,Nat.zero_le _,rfl,by simp,rfl⟩
 case round =>
  obtain ⟨k,hk,rfl,rfl,rfl⟩:=hrel
  by_cases hlt:k<N
  ·obtain ⟨A1,c1,hc1,hp1,_⟩:=HV.out k hlt
   obtain ⟨hf1,hf2⟩:=HF.out k hlt
   have hS:=HS.out
   rw [hf1,List.length_append] at hf2
   have HSUM:Hid ((ls.take (k+1)).flatten.length=(ls.take k).flatten.length+(ls.getD k []).length):=hid (by rw [hf1,List.length_append])
   clear hf1
   generalize (ls.take k).flatten.length=a at *
   generalize (ls.getD k []).length=b at *
   go_wp2
   go_roundw
   case rel=>exact ⟨k+1,by omega,by go_num,by rw [HSUM.out];go_num,by first | rfl | trivial⟩
   case measure=>simp [intOf];omega
  ·obtain rfl:k=N:=by omega
   rw [HA.out]
   have HGW:=hid (HG.out w)
   have hS:=HS.out
   rw [show ls.flatten.length=L from HLL.out]
   clear hlt hk
   go_wp2_with fail
   refine HGW.out.mono ?_
   rintro e w1 ⟨v1,rfl,hown,hb1⟩
   have HO1:=hid (And.intro hown hb1)
   clear hown hb1
   go_wp2
   go_loopw [6,8,27] (fun s6 s8 s27 wr=>∃j:Nat,j<=k/\s27=.int .i64 j/\wr.ownsRow w.heap.size 3 1 s6 (ls.take j).flatten.length (numsV (ls.take j).flatten)/\Below w.heap.size w wr) (fun _ _ i _=>k-(intOf i).toNat)
   case atStart=>exact ⟨0,Nat.zero_le _,rfl,HO1.out.1,HO1.out.2⟩
   case round =>
    obtain ⟨j,hj,rfl,hown,hbr⟩:=hrel
    have HJ:=hid (And.intro hown hbr)
    by_cases hlt:j<k
    ·obtain ⟨A1,c1,hc1,hp1,hr1⟩:=HV.out j hlt
     obtain ⟨hf1,hf2⟩:=HF.out j hlt
     have hS:=HS.out
     have HRL:=hid (hr1.below hbr)
     obtain ⟨ad1,rfl,hab1,hac1⟩:=HRL.out.2 hp1
     have hcr:=(hbr.cell (p:=ad.add j) (by rw [block_of_add];exact HB.out)).trans hc1
     have HSUM:Hid ((ls.take (j+1)).flatten.length=(ls.take j).flatten.length+(ls.getD j []).length):=hid (by rw [hf1,List.length_append])
     have HROW:Hid (numsV (ls.take (j+1)).flatten=numsV (ls.take j).flatten++numsV (ls.getD j [])):=hid (by rw [hf1];simp [numsV])
     have hsum:=HSUM.out
     have hll:(numsV (ls.getD j [])).length=(ls.getD j []).length*1:=by simp [numsV]
     have hone:∀u∈numsV (ls.getD j []),u.oneCell'=true:=by
      intro u hu
      simp only [numsV,List.mem_map] at hu
      obtain ⟨x,_,rfl⟩:=hu
      rfl
     have HAC:=hid hac1
     have HLLN:=hid hll
     have HONE:=hid hone
     have hsz:=hbr.size
     have HBR:=hid hbr
     clear hf1 hc1 hr1 hab1 hac1 hll hone hbr HV HF
     generalize hqa:(ls.take j).flatten.length=a at *
     generalize hqb:(ls.getD j []).length=b at *
     clear hqa hqb
     have hown2:=HJ.out.1
     clear hown
     go_wp2_with (at_builtin;refine wpList_append_own _ rfl _ _ 22 rfl w.heap.size 3 i0 (Value.int .i64 0) 1 8 Tryz.underlying22 hi hz0 hz1 hz2 rfl (by decide) _ a _ rfl (by exact hown2) ad1 b c1 _ rfl HLLN.out HAC.out HONE.out (by unfold maxLen;omega) (by omega) (by exact hsz) ?_;intro v2 w2 hown3 hg3 _)
     clear hown2
     go_roundw
     case rel=>exact ⟨j+1,by omega,by go_num,by rw [HSUM.out,HROW.out];exact hown3,HBR.out.grown hg3 HBR.out.size (fun g hg=>(HJ.out.1.lt g hg).1)⟩
     case measure=>simp [intOf];omega
    ·obtain rfl:j=k:=by omega
     clear hown hbr hlt hj
     go_wp2
     go_ret
     exact ⟨_,rfl,by have:=HJ.out.1;rw [HA.out,HLL.out] at this;exact this,HJ.out.2⟩
/-! ### []uint8 -/
open Go.Proofs.YtcnjpmcelihknaaGreatDoor.U (Pad Fresh)
def intsV (ts:List Int):List Value:=ts.map (Value.int .i64)
def descB (sq:Int) (n z:Nat):Bool:=seqB sq && (decide (1<=n/\n<=24) && decide (z<2 ^ n))
theorem cell_ints {w:World} {A:Option Addr} {n:Nat} {ts:List Int} (hr:Reads w w.heap.size A n (intsV ts)):∀k,k<n->∃ad,A=some ad/\ad.block<w.heap.size/\w.cell? (ad.add k)=some (.int .i64 (ts.getD k 0)):=fun k hk=>by
 have hl:ts.length=n:=by have:=hr.1;simpa [intsV] using this
 obtain ⟨ad,u,h1,h2,h3,h4⟩:=hr.at_ hk
 simp only [intsV,List.getElem?_map,List.getElem?_eq_getElem (show k<ts.length by omega),Option.map_some,Option.some.injEq] at h3
 exact ⟨ad,h1,h2,by rw [h4,<- h3];simp [List.getD,show k<ts.length by omega]⟩
theorem desc_no1 (sq:Int) (A:Option Addr) (n c z:Nat) (w:World) (_:n<=140737488355328) (h:descB sq n z=false):Calls Tryz.prog 14 #[.int .i64 sq,.slice A n c,.int .u32 (z:Int)] w (Nil1 w):=by
 have HS:=hid (isSeq_any sq w)
 change Hid (Calls _ _ _ _ fun e w'=>e=.returned (.bool (seqB sq))/\w=w') at HS
 unfold Nil1
 unfold descB at h
 cases hs:seqB sq with
 | false =>
  rw [hs] at HS
  clear h hs
  by_cases h1:1<=n
  ·have q1:decide ((n:Int)≥1)=true:=by simp;omega
   by_cases h2:n<=24
   ·have q2:decide ((n:Int)<=24)=true:=by simp;omega
    go_enter Tryz.func14,Tryz.ntmps14
    go_wp2_with fail
    refine HS.out.mono ?_
    rintro e w' ⟨rfl,rfl⟩
    go_wp2
    go_ret2
    exact ⟨rfl,Below.refl _ _⟩
   ·have q2:decide ((n:Int)<=24)=false:=by simp;omega
    go_enter Tryz.func14,Tryz.ntmps14
    go_wp2_with fail
    refine HS.out.mono ?_
    rintro e w' ⟨rfl,rfl⟩
    go_wp2
    go_ret2
    exact ⟨rfl,Below.refl _ _⟩
  ·have q1:decide ((n:Int)≥1)=false:=by simp;omega
   go_enter Tryz.func14,Tryz.ntmps14
   go_wp2_with fail
   refine HS.out.mono ?_
   rintro e w' ⟨rfl,rfl⟩
   go_wp2
   go_ret2
   exact ⟨rfl,Below.refl _ _⟩
 | true =>
  rw [hs] at HS
  rw [hs,Bool.true_and] at h
  clear hs
  by_cases h1:1<=n
  ·have q1:decide ((n:Int)≥1)=true:=by simp;omega
   by_cases h2:n<=24
   ·have q2:decide ((n:Int)<=24)=true:=by simp;omega
    rw [decide_eq_true (And.intro h1 h2),Bool.true_and] at h
    have hzn:=of_decide_eq_false h
    have qz:=div_big z n (by omega)
    clear h hzn
    go_enter Tryz.func14,Tryz.ntmps14
    go_wp2_with fail
    refine HS.out.mono ?_
    rintro e w' ⟨rfl,rfl⟩
    go_wp2
    go_ret2
    exact ⟨rfl,Below.refl _ _⟩
   ·have q2:decide ((n:Int)<=24)=false:=by simp;omega
    go_enter Tryz.func14,Tryz.ntmps14
    go_wp2_with fail
    refine HS.out.mono ?_
    rintro e w' ⟨rfl,rfl⟩
    go_wp2
    go_ret2
    exact ⟨rfl,Below.refl _ _⟩
  ·have q1:decide ((n:Int)≥1)=false:=by simp;omega
   go_enter Tryz.func14,Tryz.ntmps14
   go_wp2_with fail
   refine HS.out.mono ?_
   rintro e w' ⟨rfl,rfl⟩
   go_wp2
   go_ret2
   exact ⟨rfl,Below.refl _ _⟩
def descN (n z:Nat) (ns:List Nat):List Nat:=n :: z :: ns
def DescQ (sq:Int) (n z:Nat) (ts:List Int) (w:World) (e:Ending) (w':World):Prop :=
 (ts.all numB=false/\Nil1 w e w')\/(ts.all numB=true/\Sealed w (sealL descM sq.toNat (descN n z (ts.map Int.toNat))) e w')
theorem reads_two {w:World} {t:TypeId} (x y:Value):Reads (w.alloc (.cells #[x,y] t)) (w.alloc (.cells #[x,y] t)).heap.size (some ⟨w.heap.size,0,none⟩) 2 [x,y] :=
 ⟨rfl,fun _=>⟨_,rfl,by simp,fun j u hu=>by
  have hj:j<2:=by have:=(List.getElem?_eq_some_iff.1 hu).1;simpa using this
  have e:(⟨w.heap.size,0,none⟩:Addr).add j=⟨w.heap.size,j,none⟩:=by unfold Addr.add;split<;>simp_all
  rw [e,cell_of_row _ _ j _ _ _ (heap_alloc_new w _),List.getElem?_toArray]
  exact hu⟩⟩
theorem toNat_ints {ts:List Int} (h:ts.all numB=true):intsV ts=numsV (ts.map Int.toNat)/\∀x∈ts.map Int.toNat,x<4294967296:=by
 have hx:∀x∈ts,0<=x/\x<=65535:=fun x hx=>of_decide_eq_true (List.all_eq_true.1 h x hx)
 constructor
 ·unfold intsV numsV
  rw [List.map_map]
  apply List.map_congr_left
  intro x hm
  have:=hx x hm
  simp only [Function.comp]
  congr 1
  omega
 ·intro y hy
  obtain ⟨x,hm,rfl⟩:=List.mem_map.1 hy
  have:=hx x hm
  omega
theorem desc_cat {w:World} {A:Option Addr} {n c z:Nat} {ns:List Nat} (hr:Reads w w.heap.size A n (numsV ns)) (h1:1<=n) (h2:n<=24) :
  ∀cc,Calls Tryz.prog 62 #[.slice (some ⟨w.heap.size+1,0,none⟩) 2 cc] ((w.alloc (.cells #[.int .i64 (n:Int),.int .i64 (z:Int)] 3)).alloc (.cells #[.slice (some ⟨w.heap.size,0,none⟩) 2 2,.slice A n c] 22)) fun e w' =>
   ∃B cap,e=.returned (.slice B (n+2) cap)/\Reads w' w'.heap.size B (n+2) (numsV (descN n z ns))/\Below w.heap.size w w':=fun cc=>by
 have hln:ns.length=n:=by have:=hr.1;simpa [numsV] using this
 have hb1:Below w.heap.size w (w.alloc (.cells #[.int .i64 (n:Int),.int .i64 (z:Int)] 3)):=(Below.refl _ _).alloc (Nat.le_refl _) _
 have r1:Reads (w.alloc (.cells #[.int .i64 (n:Int),.int .i64 (z:Int)] 3)) (w.alloc (.cells #[.int .i64 (n:Int),.int .i64 (z:Int)] 3)).heap.size (some ⟨w.heap.size,0,none⟩) 2 (numsV [n,z]):=reads_two _ _
 have hz1:(w.alloc (.cells #[.int .i64 (n:Int),.int .i64 (z:Int)] 3)).heap.size=w.heap.size+1:=by simp
 generalize w.alloc (.cells #[.int .i64 (n:Int),.int .i64 (z:Int)] 3)=w1 at *
 have hb2:Below w1.heap.size w1 (w1.alloc (.cells #[.slice (some ⟨w.heap.size,0,none⟩) 2 2,.slice A n c] 22)):=(Below.refl _ _).alloc (Nat.le_refl _) _
 have r2:=reads_two (w:=w1) (t:=22) (.slice (some ⟨w.heap.size,0,none⟩) 2 2) (.slice A n c)
 rw [hz1] at r2
 generalize w1.alloc (.cells #[.slice (some ⟨w.heap.size,0,none⟩) 2 2,.slice A n c] 22)=w2 at *
 have hb:=hb1.trans (hb2.mono hb1.size)
 have hP:Parts_i w2 [.slice (some ⟨w.heap.size,0,none⟩) 2 2,.slice A n c] [[n,z],ns]:=⟨rfl,fun i hi=>by
  have:i=0\/i=1:=by simp at hi;omega
  rcases this with rfl | rfl
  ·exact ⟨_,2,rfl,by simp,(r1.below hb2).more hb2.size⟩
  ·exact ⟨A,c,by simp [hln],by simp;omega,by simpa [hln] using (hr.below hb).more hb.size⟩⟩
 refine (concat_i (some ⟨w.heap.size+1,0,none⟩) 2 cc _ _ w2 (by decide) (by decide) r2 hP (by simp;omega)).mono ?_
 rintro e w' ⟨v,rfl,hown,hb3⟩
 obtain ⟨B,cap,rfl,hrd,_,_⟩:=own_shape hown
 have e:[[n,z],ns].flatten=descN n z ns:=by simp [descN]
 have e2:[[n,z],ns].flatten.length=n+2:=by simp [hln]
 rw [e2] at hrd
 rw [e] at hrd
 exact ⟨B,cap,by rw [e2],hrd,hb.trans (hb3.mono hb.size)⟩
set_option maxRecDepth 20000 in
set_option maxHeartbeats 1000000 in
theorem desc_any (sq:Int) (A:Option Addr) (n c z:Nat) (ts:List Int) (w:World) (hz:z<4294967296) (hr:Reads w w.heap.size A n (intsV ts)) (hT:Tabs w) (h:descB sq n z=true) :
  Calls Tryz.prog 14 #[.int .i64 sq,.slice A n c,.int .u32 (z:Int)] w (DescQ sq n z ts w):=by
 unfold descB at h
 simp only [Bool.and_eq_true,decide_eq_true_eq] at h
 obtain ⟨hs,⟨h1,h2⟩,hzn⟩:=h
 have HS:=hid (isSeq_any sq w)
 change Hid (Calls _ _ _ _ fun e w'=>e=.returned (.bool (seqB sq))/\w=w') at HS
 rw [hs] at HS
 have hlen:ts.length=n:=by have:=hr.1;simpa [intsV] using this
 have HC:=hid (cell_ints hr)
 have qz:=div_small z n hzn
 have q1:decide ((n:Int)≥1)=true:=by simp;omega
 have q2:decide ((n:Int)<=24)=true:=by simp;omega
 have HLT:Hid (∀k,k<n->numB (ts.getD k 0)=false->ts.all numB=false):=hid fun k hk hf=>by
  rw [<- Bool.not_eq_true]
  intro ha
  have:=List.all_eq_true.1 ha (ts.getD k 0) (by simp [List.getD,show k<ts.length by omega])
  rw [this] at hf
  cases hf
 have HALL:Hid ((∀i,i<n->numB (ts.getD i 0)=true)->ts.all numB=true):=hid fun ha=>List.all_eq_true.2 fun x hx=>by
  obtain ⟨i,hi,rfl⟩:=List.getElem_of_mem hx
  have:=ha i (by omega)
  simpa [List.getD,hi] using this
 have HSQ:=hid (of_decide_eq_true hs)
 have HR:=hid hr
 have HT:=hid (fun w' (h:Below w.heap.size w w')=>hT.below hT.size h)
 have HLEN:=hid hlen
 have HH:=hid (And.intro h1 (And.intro h2 hz))
 have hwz:IntKind.i64.wrap (z:Int)=z:=by rw [IntKind.wrap_i64];omega
 have HN:=hid (fun x=>isNumber_any x w)
 change Hid (∀x,Calls _ _ _ _ fun e w'=>e=.returned (.bool (numB x))/\w=w') at HN
 clear hr hT hs hzn hlen hz
 go_enter Tryz.func14,Tryz.ntmps14
 go_wp2_with fail
 refine HS.out.mono ?_
 rintro e w' ⟨rfl,rfl⟩
 go_wp2
 go_loopw [10,35] (fun s10 s35 wr=>∃k:Nat,k<=n/\s35=.int .i64 k/\Hid (∀i,i<k->numB (ts.getD i 0)=true)/\w=wr) (fun _ i _=>n-(intOf i).toNat)
 case atStart=>exact ⟨0,Nat.zero_le _,rfl,hid (fun i hi=>absurd hi (by omega)),by first | rfl | trivial⟩
 case round =>
  obtain ⟨k,hk,rfl,hall,rfl⟩:=hrel
  by_cases hlt:k<n
  ·obtain ⟨ad,rfl,hab,hac⟩:=HC.out k hlt
   have HNK:=hid (HN.out (ts.getD k 0))
   have HF:=hid (HLT.out k hlt)
   have HAL:Hid (numB (ts.getD k 0)=true->∀i,i<k+1->numB (ts.getD i 0)=true):=hid fun hn i hi=>by
    by_cases e:i=k
    ·rw [e];exact hn
    ·exact hall.out i (by omega)
   generalize ts.getD k 0=x at *
   cases hb:numB x with
   | false =>
    have HB:=hid (HF.out hb)
    rw [hb] at HNK
    clear hb hall
    go_wp2_with fail
    refine HNK.out.mono ?_
    rintro e w' ⟨rfl,rfl⟩
    go_wp2
    go_ret2
    exact .inl ⟨HB.out,rfl,Below.refl _ _⟩
   | true =>
    have HB:=hid (HAL.out hb)
    rw [hb] at HNK
    clear hb hall
    go_wp2_with fail
    refine HNK.out.mono ?_
    rintro e w' ⟨rfl,rfl⟩
    go_wp2
    go_roundw
    case rel=>exact ⟨k+1,by omega,by go_num,HB,by first | rfl | trivial⟩
    case measure=>simp [intOf];omega
  ·obtain rfl:k=n:=by omega
   have hall2:=HALL.out hall.out
   obtain ⟨he,hsm⟩:=toNat_ints hall2
   have HAL:=hid hall2
   have HSM:=hid hsm
   rw [he] at HR
   obtain ⟨s,hs2⟩:∃s:Nat,sq=(s:Int):=⟨sq.toNat,by have:=HSQ.out;omega⟩
   subst hs2
   have HLN:Hid ((ts.map Int.toNat).length=k):=hid (by rw [List.length_map];exact HLEN.out)
   generalize hns:ts.map Int.toNat=ns at *
   have HNS:=hid hns
   clear hns
   clear hall hlt hk hall2 he hsm HALL HLT HC HN
   have HCC:=hid (desc_cat (c:=c) (z:=z) HR.out HH.out.1 HH.out.2.1)
   have HSL:=hid (fun (w':World) (hb:Below w.heap.size w w') (B:Option Addr) (cap:Nat) (hrd:Reads w' w'.heap.size B (k+2) (numsV (descN k z ns))) =>
    seal_ok magic_desc s (by have:=HSQ.out;omega) B (k+2) cap (descN k z ns) w' (by have:=HH.out.2.1;omega) (fun x hx=>by
     unfold descN at hx
     rcases List.mem_cons.1 hx with rfl | hx
     ·have:=HH.out.2.1;omega
     ·rcases List.mem_cons.1 hx with rfl | hx
      ·exact HH.out.2.2
      ·exact HSM.out x hx) hrd (HT.out w' hb))
   clear h1 h2 qz q1 q2
   go_wp2_with fail
   refine (HCC.out _).mono ?_
   rintro e w3 ⟨B,cap,rfl,hrd,hb3⟩
   have HB3:=hid hb3
   have HS3:=hid (HSL.out w3 hb3 B cap hrd)
   clear hrd hb3 HSL HCC
   go_wp2_with fail
   refine HS3.out.mono ?_
   rintro e w4 ⟨v4,rfl,hf⟩
   have HF:=hid (Fresh.from_ HB3.out hf)
   clear hf
   go_wp2
   go_ret2
   exact .inr ⟨HAL.out,v4,rfl,by rw [HNS.out,Int.toNat_natCast];exact HF.out⟩
open Go.Proofs.YtcnjpmcelihknaaGreatDoor.U (Pad Fresh equal_any)
theorem results_tmp4 {fn:Func} {t u v x:Tmp} (h:fn.results=#[.tmp t,.tmp u,.tmp v,.tmp x]) (tmps:Array Value) (P:Program) (w:World) :
  (results fn tmps).run P w=.ok (.tuple #[tmps.getD t undef,tmps.getD u undef,tmps.getD v undef,tmps.getD x undef]) w:=by
 simp [results,h]
def cntD (l:List Nat):Nat:=min (numAt l 0) 24
def tgtD (l:List Nat):List Nat:=((unsTo l 28).drop 2).take (cntD l)
def okD (l:List Nat):Bool:=descB (unsSeq l) (cntD l) (numAt l 1) && ((tgtD l).all (fun x=>numB (x:Int)) && decide (sealL descM (unsSeq l).toNat (descN (cntD l) (numAt l 1) (tgtD l))=l))
def NoD:Value:=.tuple #[.int .i64 0,.slice none 0 0,.int .u32 0,.int .i64 8]
def ReadDQ (l:List Nat) (w:World) (e:Ending) (w':World):Prop :=
 (okD l=false/\e=.returned NoD/\Below w.heap.size w w') \/
 (okD l=true/\∃A c,e=.returned (.tuple #[.int .i64 (unsSeq l),.slice A (cntD l) c,.int .u32 ((numAt l 1:Nat):Int),.int .i64 0])/\Reads w' w'.heap.size A (cntD l) (numsV (tgtD l))/\(∀a,A=some a->w.heap.size<=a.block)/\Below w.heap.size w w')
theorem own_numsG {w:World} {B n:Nat} {v:Value} {ns:List Nat} (h:w.ownsRow B 3 1 v n (numsV ns)) (hn:0<n):∃(g cap:Nat),v=.slice (some ⟨g,0,none⟩) n cap/\n<=cap/\cap<=maxLen/\g<w.heap.size/\B<=g/\∀i,i<n->w.cell? ⟨g,i,none⟩=some (.int .i64 ((ns.getD i 0:Nat):Int)):=by
 have h0:=h
 rcases h.2 with ⟨_,e⟩ | ⟨g,cap,cur,rfl,hg,hh,hnc,hcm,_⟩
 ·omega
 ·obtain ⟨ad,cap2,e,_,_,_,hc⟩:=own_nums h0 hn
  injection e with e
  injection e with e
  subst e
  refine ⟨g,cap,rfl,hnc,hcm,lt_of_block hh,hg,fun i hi=>?_⟩
  have:=hc i hi
  have e:(⟨g,0,none⟩:Addr).add i=⟨g,i,none⟩:=by unfold Addr.add;split<;>simp_all
  rw [e] at this
  exact this
theorem unsTo_length (l:List Nat) (k:Nat):(unsTo l k).length=k:=by simp [unsTo]
theorem tgtD_length (l:List Nat):(tgtD l).length=cntD l:=by
 have:cntD l<=24:=Nat.min_le_right _ _
 unfold tgtD
 rw [List.length_take,List.length_drop,unsTo_length];omega
theorem all_casts (ns:List Nat):(ns.map fun (x:Nat)=>(x:Int)).all numB=ns.all fun x=>numB (x:Int):=by rw [List.all_map];rfl
theorem nums_ints (ns:List Nat):numsV ns=intsV (ns.map fun (x:Nat)=>(x:Int)):=by simp [numsV,intsV]
theorem casts_back (ns:List Nat):(ns.map fun (x:Nat)=>(x:Int)).map Int.toNat=ns:=by
 rw [List.map_map]
 conv=>rhs;rw [<- List.map_id ns]
 apply List.map_congr_left
 intro x _
 simp
set_option maxRecDepth 20000 in
set_option maxHeartbeats 1000000 in
theorem readDesc_any (A:Option Addr) (c:Nat) (l:List Nat) (w:World) (hl:Small l) (hr:Reads w w.heap.size A 128 (bts l)) (hT:Tabs w) :
  Calls Tryz.prog 21 #[.slice A 128 c] w (ReadDQ l w):=by
 have HU:=hid (unseal_any A c l w hl hr)
 have HT:=hid (fun w' (h:Below w.heap.size w w')=>hT.below hT.size h)
 have HR:=hid (fun (w':World) (h:Below w.heap.size w w')=>(hr.below h).more h.size)
 have HL:=hid hl
 have HX:=numAt_lt hl
 have hx0:=HX 0
 have hx1:=HX 1
 have hwu:IntKind.u32.wrap ((numAt l 1:Nat):Int)=((numAt l 1:Nat):Int):=by rw [IntKind.wrap_u32];omega
 have hcm:min ((numAt l 0:Nat):Int) 24=((cntD l:Nat):Int):=by unfold cntD;omega
 have hc24:cntD l<=24:=Nat.min_le_right _ _
 have HQQ:Hid (∀e w',ReadDQ l w e w'=((okD l=false/\e=.returned NoD/\Below w.heap.size w w') \/
 (okD l=true/\∃A c,e=.returned (.tuple #[.int .i64 (unsSeq l),.slice A (cntD l) c,.int .u32 ((numAt l 1:Nat):Int),.int .i64 0])/\Reads w' w'.heap.size A (cntD l) (numsV (tgtD l))/\(∀a,A=some a->w.heap.size<=a.block)/\Below w.heap.size w w'))):=hid fun _ _=>rfl
 have HTL:=hid (tgtD_length l)
 have HOK:Hid (okD l=(descB (unsSeq l) (cntD l) (numAt l 1) && ((tgtD l).all (fun x=>numB (x:Int)) && decide (sealL descM (unsSeq l).toNat (descN (cntD l) (numAt l 1) (tgtD l))=l)))):=hid rfl
 have HG0:Hid ((unsTo l 28).getD 0 0=numAt l 0/\(unsTo l 28).getD 1 0=numAt l 1):=hid ⟨rfl,rfl⟩
 have HGT:Hid (∀i,i<cntD l->(unsTo l 28).getD (2+i) 0=(tgtD l).getD i 0):=hid fun i hi=>by
  unfold tgtD
  simp [List.getD,hi]
 generalize ReadDQ l w=Q at *
 generalize okD l=ok at *
 generalize tgtD l=tg at *
 generalize cntD l=n at *
 generalize unsTo l 28=us at *
 generalize numAt l 1=z at *
 generalize numAt l 0=a0 at *
 generalize unsSeq l=sq at *
 clear hr hT hl HX
 go_enter Tryz.func21,Tryz.ntmps21
 go_wp2_with fail
 refine HU.out.mono ?_
 rintro e w1 ⟨v,rfl,hown,hb1⟩
 obtain ⟨g,cap,rfl,hcap,hcapm,hab,hB1,hc⟩:=own_numsG hown (by decide)
 unfold maxLen at hcapm
 have hc0:=hc 0 (by decide)
 have hc1:=hc 1 (by decide)
 rw [HG0.out.1] at hc0
 rw [HG0.out.2] at hc1
 have HRT:Hid (Reads w1 w1.heap.size (some ⟨g,2,none⟩) n (numsV tg)):=hid ⟨by simp [numsV,HTL.out],fun _=>⟨_,rfl,hab,fun j u hu=>by
  have hj:j<n:=by have:=(List.getElem?_eq_some_iff.1 hu).1;simpa [numsV,HTL.out] using this
  have e:(⟨g,2,none⟩:Addr).add j=⟨g,2+j,none⟩:=by unfold Addr.add;split<;>simp_all
  rw [e,hc (2+j) (by omega),HGT.out j hj]
  simp only [numsV,List.getElem?_map] at hu
  have:tg[j]?=some (tg.getD j 0):=by simp [List.getD,show j<tg.length by rw [HTL.out];exact hj]
  rw [this] at hu
  exact hu⟩⟩
 have HC:=hid (And.intro hab (And.intro hb1 hB1))
 clear hown hc
 go_wp2_with fail
 go_quiet (fail)
 go_wp2_with fail
 have hbq:=below_drewN hb1 nq
 have HBQ:=hid hbq
 have HTS:Hid (Reads (w1.drewN nq) (w1.drewN nq).heap.size (some ⟨g,2,none⟩) n (intsV (tg.map fun (x:Nat)=>(x:Int)))):=hid (by rw [<- nums_ints];exact HRT.out)
 have HALL:=hid (all_casts tg)
 have HBK:=hid (casts_back tg)
 generalize tg.map (fun (x:Nat)=>(x:Int))=ts at *
 cases hd:descB sq n z with
 | false =>
  have HD:=hid (desc_no1 sq (some ⟨g,2,none⟩) n (cap-2) z (w1.drewN nq) (by omega) hd)
  have HO:Hid (ok=false):=hid (by rw [HOK.out,hd];rfl)
  clear hd hbq hc0 hc1
  refine HD.out.mono ?_
  rintro e w2 ⟨rfl,hb2⟩
  have HB2:=hid (HBQ.out.trans (hb2.mono HBQ.out.size))
  clear hb2
  go_wp2
  refine bodyPost_ret (results_tmp4 rfl _ _ _) rfl ?_
  rw [HQQ.out]
  exact .inl ⟨HO.out,rfl,HB2.out⟩
 | true =>
  have HD:=hid (desc_any sq (some ⟨g,2,none⟩) n (cap-2) z ts (w1.drewN nq) hx1 HTS.out (HT.out _ hbq) hd)
  rw [hd,Bool.true_and,<- HALL.out] at HOK
  clear hd hbq hc0 hc1
  refine HD.out.mono ?_
  rintro e w2 (⟨hall,rfl,hb2⟩ | ⟨hall,v2,rfl,hf⟩)
  ·have HO:Hid (ok=false):=hid (by rw [HOK.out,hall];rfl)
   have HB2:=hid (HBQ.out.trans (hb2.mono HBQ.out.size))
   clear hb2 hall
   go_wp2
   refine bodyPost_ret (results_tmp4 rfl _ _ _) rfl ?_
   rw [HQQ.out]
   exact .inl ⟨HO.out,rfl,HB2.out⟩
  ·rw [HBK.out] at hf
   rw [hall,Bool.true_and] at HOK
   obtain ⟨q,rfl,hg,hrd,hb2⟩:=fresh_reads hf (sealL_length descM_facts.1 _ (by simp [descN,HTL.out];omega))
   have hb02:=HBQ.out.trans (hb2.mono HBQ.out.size)
   have HEE:=hid (fun d=>equal_any (some ⟨q,0,none⟩) A 128 d 128 c _ _ w2 (sealL_small descM_facts.2 _ _) HL.out hrd (HR.out w2 hb02))
   have HB02:=hid hb02
   have HRT2:Hid (Reads w2 w2.heap.size (some ⟨g,2,none⟩) n (numsV tg)):=hid ((Reads.below (w:=w1.drewN nq) HRT.out hb2).more hb2.size)
   clear hf hrd hb2 hb02 hall
   by_cases heq:sealL descM sq.toNat (descN n z tg)=l
   ·rw [decide_eq_true heq] at HEE HOK
    clear heq
    go_wp2_with fail
    refine (HEE.out _).mono ?_
    rintro e w' ⟨rfl,rfl⟩
    go_wp2
    refine bodyPost_ret (results_tmp4 rfl _ _ _) rfl ?_
    rw [HQQ.out]
    exact .inr ⟨HOK.out,_,_,rfl,HRT2.out,fun a ha=>by injection ha with ha;rw [<- ha];exact HC.out.2.2,HB02.out⟩
   ·rw [decide_eq_false heq] at HEE HOK
    clear heq
    go_wp2_with fail
    refine (HEE.out _).mono ?_
    rintro e w' ⟨rfl,rfl⟩
    go_wp2
    refine bodyPost_ret (results_tmp4 rfl _ _ _) rfl ?_
    rw [HQQ.out]
    exact .inl ⟨HOK.out,rfl,HB02.out⟩
end Go.Proofs.YtcnjpmcelihknaaGreatDoor.Kj
