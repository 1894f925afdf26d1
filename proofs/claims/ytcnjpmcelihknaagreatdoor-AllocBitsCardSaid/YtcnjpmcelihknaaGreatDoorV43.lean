/-
  What the statement's proof rests on, part 43.
  Conditions: each theorem's own.
-/
import Derived.Test.YtcnjpmcelihknaaGreatDoorV38
import Derived.Test.YtcnjpmcelihknaaGreatDoorV27
import Derived.Test.YtcnjpmcelihknaaGreatDoorV24
open Go.Lib (hid)
namespace Go.Proofs.YtcnjpmcelihknaaGreatDoor.Kj
open Go.RowKit Go.Maps
structure Jg where
 p:Nat
 m:Nat
 fi:Nat
 le:Nat
structure Js where
 sq:Nat
 a:Nat
 u:Nat
 f:Nat->Sh.Bs
 R:List (Nat × Sh.Bs)
def mine (S:StoK) (G:Jg) (b:Nat):Prop:=b<S.n/\¬(G.fi<=b/\b<G.fi+G.le)
def Js.look (s:Js):Nat->Sh.Bs:=over s.R s.f
structure Jou (S:StoK) (G:Jg) (w:World) (O:Nat->Prop) (s:Js) (k:Nat):Prop where
 st:∃O0 C,Jst S G.p G.fi G.le (.map (some G.m)) w O0 s.f C s.sq s.a s.u k/\¬O0 G.m/\O=fun b=>O0 b\/b=G.p\/b=G.m
 map:RMap w G.m s.R
 rises:Rises s.R
 few:s.R.length<=24
 mine:∀z∈s.R,mine S G z.1/\Sh.Sec z.2
 nums:1<=s.sq/\s.sq+k<=4611686018427387904/\s.u<=G.le-1
section
variable {S:StoK} {G:Jg} {w w':World} {O O':Nat->Prop} {s:Js} {k k':Nat}
theorem Jou.lt (h:Jou S G w O s k):∀b,O b->b<w.heap.size:=by
 obtain ⟨O0,C,hj,_,rfl⟩:=h.st
 rintro b (e | rfl | rfl)
 ·exact S.lt hj.is b e
 ·exact hj.plt
 ·exact h.map.lt
theorem Jou.only {F:Nat->Prop} (h:Jou S G w O s k) (ho:Sh.Only F w w') (hF:∀b,F b->¬O b):Jou S G w' O s k:=by
 obtain ⟨O0,C,hj,hm,rfl⟩:=h.st
 exact ⟨⟨O0,C,hj.only ho (fun b hb e=>hF b hb (.inl e)) (fun e=>hF _ e (.inr (.inl rfl))),hm,rfl⟩,h.map.same (ho.block _ h.map.lt fun e=>hF _ e (.inr (.inr rfl))),h.rises,h.few,h.mine,h.nums⟩
theorem Jou.grown (h:Jou S G w O s k) (hb:Below w.heap.size w w'):Jou S G w' O s k:=h.only (Go.Proofs.YtcnjpmcelihknaaGreatDoor.Kc.only_below hb) fun _ e=>e.elim
theorem Jou.less (h:Jou S G w O s k) (hk:k'<=k):Jou S G w O s k':=by
 obtain ⟨O0,C,hj,hm,e⟩:=h.st
 exact ⟨⟨O0,C,hj.less hk,hm,e⟩,h.map,h.rises,h.few,h.mine,h.nums.1,Nat.le_trans (by omega) h.nums.2.1,h.nums.2.2⟩
theorem Jou.pm (h:Jou S G w O s k):G.p≠G.m:=by
 obtain ⟨O0,C,hj,_,_⟩:=h.st
 obtain ⟨es,clock,hb,_⟩:=h.map
 intro e
 have:=hj.root
 rw [e,hb] at this
 cases this
theorem Jou.bel (h:Jou S G w O s k):Below S.B S.W w:=by obtain ⟨O0,C,hj,_⟩:=h.st;exact S.bel hj.is
theorem Jou.sec (h:Jou S G w O s k) (b:Nat) (hb:b<S.n):Sh.Sec (s.look b):=by
 obtain ⟨O0,C,hj,_⟩:=h.st
 unfold Js.look over
 rcases hg:rget s.R b with _ | c
 ·exact S.sec b hj.is hb
 ·exact (h.mine _ (rget_some hg)).2
def ownB (S:StoK) (G:Jg) (n:Int):Bool:=decide (0<=n/\n<(S.n:Int)/\¬((G.fi:Int)<=n/\n<(G.fi:Int)+(G.le:Int)))
theorem ownB_mine {b:Nat}:ownB S G (b:Int)=true↔mine S G b:=by
 unfold ownB mine
 rw [decide_eq_true_eq];omega
theorem jOwns {p fi le:Nat} {mv:Value} {f:Nat->Sh.Bs} {C:Nat->Prop} {sq a u m:Nat} (h:Jst S p fi le mv w O f C sq a u k) (n:Int):Calls Tryz.prog 94 #[.pointer (some ⟨p,0,none⟩),.int .i64 n] w fun e w'=>e=.returned (.bool (ownB S ⟨p,m,fi,le⟩ n))/\Below w.heap.size w w':=by
 have c0:=h.c0
 have c1:=h.c1
 have c2:=h.c2
 have hb:=h.bd
 have HV:=hid (jVolume h)
 have HS:=hid (fun (W:World) (hb:Below w.heap.size w W)=>S.size (h.grown hb).is)
 have b2:=hb.2.1
 have b3:=hb.2.2.1
 have HO:Hid (ownB S ⟨p,m,fi,le⟩ n=decide (0<=n/\n<(S.n:Int)/\¬((fi:Int)<=n/\n<(fi:Int)+(le:Int)))):=hid rfl
 generalize ownB S ⟨p,m,fi,le⟩ n=ob at *
 have wz:IntKind.i64.wrap ((fi:Int)+(le:Int))=(fi:Int)+(le:Int):=by rw [IntKind.wrap_i64];omega
 have HL:=hid h.lay
 clear h hb
 have hlay:=HL.out
 by_cases h1:(fi:Int)<=n
 ·have q1:decide (n≥(fi:Int))=true:=by simpa using h1
  by_cases h2:n<(fi:Int)+(le:Int)
  ·have q2:decide (n<(fi:Int)+(le:Int))=true:=by simpa using h2
   have q3:decide (n≥0)=true:=by simp;omega
   have q4:decide (n<(S.n:Int))=true:=by simp;omega
   have HX:Hid (ob=false):=hid (by rw [HO.out,decide_eq_false_iff_not];omega)
   clear hlay
   go_enter Tryz.func94,Tryz.ntmps94
   go_wp2
   go_quiet (fail)
   have c0':(w.drewN nq).cell? ⟨p,0,none⟩=some (.pointer (some ⟨S.c,0,none⟩)):=c0
   have HVQ:=hid (HV.out _ (below_drewN (Below.refl _ w) nq))
   have HSQ:=hid (HS.out _ (below_drewN (Below.refl _ w) nq))
   generalize (S.n:Int)=sn at *
   go_wp2_with fail
   refine HVQ.out.mono ?_
   rintro e w0 ⟨rfl,rfl⟩
   go_wp2_with fail
   refine HSQ.out.mono ?_
   rintro e w1 ⟨rfl,hb1⟩
   have HB1:=hid ((below_drewN (Below.refl _ w) nq).trans hb1)
   clear hb1
   go_wp2
   go_ret
   exact ⟨by rw [HX.out];rfl,HB1.out⟩
  ·have q2:decide (n<(fi:Int)+(le:Int))=false:=by simpa using h2
   have q3:decide (n≥0)=true:=by simp;omega
   by_cases h4:n<(S.n:Int)
   ·have q4:decide (n<(S.n:Int))=true:=by simpa using h4
    have HX:Hid (ob=true):=hid (by rw [HO.out,decide_eq_true_eq];omega)
    clear hlay
    go_enter Tryz.func94,Tryz.ntmps94
    go_wp2
    go_quiet (fail)
    have c0':(w.drewN nq).cell? ⟨p,0,none⟩=some (.pointer (some ⟨S.c,0,none⟩)):=c0
    have HVQ:=hid (HV.out _ (below_drewN (Below.refl _ w) nq))
    have HSQ:=hid (HS.out _ (below_drewN (Below.refl _ w) nq))
    generalize (S.n:Int)=sn at *
    go_wp2_with fail
    refine HVQ.out.mono ?_
    rintro e w0 ⟨rfl,rfl⟩
    go_wp2_with fail
    refine HSQ.out.mono ?_
    rintro e w1 ⟨rfl,hb1⟩
    have HB1:=hid ((below_drewN (Below.refl _ w) nq).trans hb1)
    clear hb1
    go_wp2
    go_ret
    exact ⟨by rw [HX.out];rfl,HB1.out⟩
   ·have q4:decide (n<(S.n:Int))=false:=by simpa using h4
    have HX:Hid (ob=false):=hid (by rw [HO.out,decide_eq_false_iff_not];omega)
    clear hlay
    go_enter Tryz.func94,Tryz.ntmps94
    go_wp2
    go_quiet (fail)
    have c0':(w.drewN nq).cell? ⟨p,0,none⟩=some (.pointer (some ⟨S.c,0,none⟩)):=c0
    have HVQ:=hid (HV.out _ (below_drewN (Below.refl _ w) nq))
    have HSQ:=hid (HS.out _ (below_drewN (Below.refl _ w) nq))
    generalize (S.n:Int)=sn at *
    go_wp2_with fail
    refine HVQ.out.mono ?_
    rintro e w0 ⟨rfl,rfl⟩
    go_wp2_with fail
    refine HSQ.out.mono ?_
    rintro e w1 ⟨rfl,hb1⟩
    have HB1:=hid ((below_drewN (Below.refl _ w) nq).trans hb1)
    clear hb1
    go_wp2
    go_ret
    exact ⟨by rw [HX.out];rfl,HB1.out⟩
 ·have q1:decide (n≥(fi:Int))=false:=by simpa using h1
  by_cases h3:0<=n
  ·have q3:decide (n≥0)=true:=by simpa using h3
   have q4:decide (n<(S.n:Int))=true:=by simp;omega
   have HX:Hid (ob=true):=hid (by rw [HO.out,decide_eq_true_eq];omega)
   clear hlay
   go_enter Tryz.func94,Tryz.ntmps94
   go_wp2
   go_quiet (fail)
   have c0':(w.drewN nq).cell? ⟨p,0,none⟩=some (.pointer (some ⟨S.c,0,none⟩)):=c0
   have HVQ:=hid (HV.out _ (below_drewN (Below.refl _ w) nq))
   have HSQ:=hid (HS.out _ (below_drewN (Below.refl _ w) nq))
   generalize (S.n:Int)=sn at *
   go_wp2_with fail
   refine HVQ.out.mono ?_
   rintro e w0 ⟨rfl,rfl⟩
   go_wp2_with fail
   refine HSQ.out.mono ?_
   rintro e w1 ⟨rfl,hb1⟩
   have HB1:=hid ((below_drewN (Below.refl _ w) nq).trans hb1)
   clear hb1
   go_wp2
   go_ret
   exact ⟨by rw [HX.out];rfl,HB1.out⟩
  ·have q3:decide (n≥0)=false:=by simpa using h3
   have HX:Hid (ob=false):=hid (by rw [HO.out,decide_eq_false_iff_not];omega)
   clear hlay
   go_enter Tryz.func94,Tryz.ntmps94
   go_wp2
   go_quiet (fail)
   go_wp2
   go_ret
   exact ⟨by rw [HX.out];rfl,below_drewN (Below.refl _ _) _⟩
end
section
variable {S:StoK} {G:Jg} {w w':World} {O O':Nat->Prop} {s:Js} {k k':Nat}
theorem Jou.isn (h:Jou S G w O s k):Calls Tryz.prog 86 #[.pointer (some ⟨G.p,0,none⟩)] w fun e w'=>e=.returned (.bool false)/\w=w':=by
 obtain ⟨O0,C,hj,_⟩:=h.st;exact jNone hj
theorem Jou.owns (h:Jou S G w O s k) (n:Int):Calls Tryz.prog 94 #[.pointer (some ⟨G.p,0,none⟩),.int .i64 n] w fun e w'=>e=.returned (.bool (ownB S G n))/\Below w.heap.size w w':=by
 obtain ⟨O0,C,hj,_⟩:=h.st;exact jOwns (m:=G.m) hj n
theorem Jou.c0 (h:Jou S G w O s k):w.cell? ⟨G.p,0,none⟩=some (.pointer (some ⟨S.c,0,none⟩)):=by obtain ⟨O0,C,hj,_⟩:=h.st;exact hj.c0
theorem Jou.c6 (h:Jou S G w O s k):w.cell? ⟨G.p,6,none⟩=some (.map (some G.m)):=by obtain ⟨O0,C,hj,_⟩:=h.st;exact hj.c6
theorem Jou.plt (h:Jou S G w O s k):G.p<w.heap.size:=by obtain ⟨O0,C,hj,_⟩:=h.st;exact hj.plt
theorem Jou.inm (h:Jou S G w O s k):O G.m:=by obtain ⟨O0,C,hj,_,rfl⟩:=h.st;exact .inr (.inr rfl)
theorem Jou.setR (h:Jou S G w O s k) {R:List (Nat × Sh.Bs)} (hm:RMap w' G.m R) (ho:Sh.Only (fun b=>b=G.m) w w') (hr:Rises R) (hf:R.length<=24) (hx:∀z∈R,Go.Proofs.YtcnjpmcelihknaaGreatDoor.Kj.mine S G z.1/\Sh.Sec z.2) :
  Jou S G w' O { s with R:=R } k/\Sh.Moves O w O w':=by
 obtain ⟨O0,C,hj,hnm,rfl⟩:=h.st
 exact ⟨⟨⟨O0,C,hj.only ho (fun b hb e=>hnm (by rw [<- hb];exact e)) h.pm,hnm,rfl⟩,hm,hr,hf,hx,h.nums⟩,ho.mono fun b hb=>.inr (.inr hb),fun b hb=>.inl hb⟩
theorem Jou.moved {O0 O1:Nat->Prop} {C:Nat->Prop} {f:Nat->Sh.Bs} (h:Jou S G w O s k) (hm:¬O0 G.m) (e:O=fun b=>O0 b\/b=G.p\/b=G.m) {sq a u:Nat} (hj:Jst S G.p G.fi G.le (.map (some G.m)) w' O1 f C sq a u k') (hmv:Sh.Moves O0 w O1 w')
  (hn:1<=sq/\sq+k'<=4611686018427387904/\u<=G.le-1) :
  Jou S G w' (fun b=>O1 b\/b=G.p\/b=G.m) ⟨sq,a,u,f,s.R⟩ k'/\Sh.Moves O w (fun b=>O1 b\/b=G.p\/b=G.m) w':=by
 have hO1:¬O1 G.m:=fun e2=>(hmv.2 _ e2).elim hm (fun q=>absurd h.map.lt (by omega))
 subst e
 refine ⟨⟨⟨O1,C,hj,hO1,rfl⟩,h.map.same (hmv.1.block _ h.map.lt hm),h.rises,h.few,h.mine,hn⟩,hmv.1.mono fun b hb=>.inl hb,?_⟩
 rintro b (e | e | e)
 ·exact (hmv.2 b e).imp .inl id
 ·exact .inl (.inr (.inl e))
 ·exact .inl (.inr (.inr e))
theorem Jou.get (h:Jou S G w O s (k+2)) (b:Nat) (hb:Go.Proofs.YtcnjpmcelihknaaGreatDoor.Kj.mine S G b):Calls Tryz.prog 95 #[.pointer (some ⟨S.c,0,none⟩),.int .i64 (b:Int)] w fun e w' =>
  ∃(A:Option Addr) (cap:Nat) (O':Nat->Prop),e=.returned (.tuple #[.slice A 128 cap,.int .i64 0])/\Jou S G w' O' s k/\Sh.Moves O w O' w'/\Sh.Bytes w w' A (s.f b)/\∀ad,A=some ad->¬O' ad.block:=by
 obtain ⟨O0,C,hj,hm,e⟩:=h.st
 refine (S.get b hj.is hb.1).mono ?_
 rintro r w' ⟨A,cap,O1,rfl,hi,hmv,hby,hno⟩
 have h1:=h.moved hm e (hj.moved2 hi (fun c hc h1 h2=>⟨hc,fun q=>hb.2 (by rw [<- q];exact ⟨h1,h2⟩)⟩) hmv) hmv ⟨h.nums.1,Nat.le_trans (by omega) h.nums.2.1,h.nums.2.2⟩
 refine ⟨A,cap,_,rfl,h1.1,h1.2,hby,fun ad ha q=>?_⟩
 have h2:=(hby.2 ad ha).1
 rcases q with q | q | q
 ·exact hno ad ha q
 ·have:=hj.plt;omega
 ·have:=h.map.lt;omega
theorem info_arr:(Tryz.prog.info? 147).map (·.size)=some 128:=by kernel_rfl
theorem zero_arr:(Tryz.zeroCells147).size=128:=by kernel_rfl
theorem arr_facts {b:Sh.Bs} (hb:Sh.Sec b):(Tryz.prog.info? 147).map (·.size)=some (bts b).toArray.size/\(Tryz.zeroCells147).size=(bts b).toArray.size/\(bts b).toArray.all (·.oneCell')=true :=
 ⟨by rw [info_arr,List.size_toArray,bts_length,hb.1],by rw [zero_arr,List.size_toArray,bts_length,hb.1],by simp [bts,Value.oneCell']⟩
theorem arr_new (w:World) (X:Array Value):Below w.heap.size w ((w.alloc (.cells Tryz.zeroCells147 147)).setRow w.heap.size X)/\((w.alloc (.cells Tryz.zeroCells147 147)).setRow w.heap.size X).heap[w.heap.size]?=some (.cells X 147 (0,0)):=by
 refine ⟨((Below.refl _ w).alloc (Nat.le_refl _) _).trans ⟨rfl,rfl,rfl,by simp,fun k hk=>setRow_other _ _ _ _ (by omega)⟩,setRow_heap _ _ _ _ _ _ (heap_alloc_new w _)⟩
def GotJ (S:StoK) (G:Jg) (w:World) (O:Nat->Prop) (s:Js) (k:Nat) (b:Nat) (e:Ending) (w':World):Prop :=
 ∃(A:Option Addr) (cap:Nat) (O':Nat->Prop),e=.returned (.tuple #[.slice A 128 cap,.int .i64 0])/\Jou S G w' O' s k/\Sh.Moves O w O' w'/\Sh.Bytes w w' A (s.look b)/\∀ad,A=some ad->¬O' ad.block
set_option maxRecDepth 20000 in
theorem jRead (h:Jou S G w O s (k+2)) (b:Nat) (hb:mine S G b):Calls Tryz.prog 36 #[.pointer (some ⟨G.p,0,none⟩),.int .i64 (b:Int)] w (GotJ S G w O s k b):=by
 have HN:=hid h.isn
 have HW:=hid (h.owns (b:Int))
 rw [ownB_mine.2 hb] at HW
 have hbm:b<=1073741824:=by have:=hb.1;have:=S.nmax;omega
 have HL:=hid (fun (W:World) (hB:Below w.heap.size w W)=>(h.grown hB).map.look b hbm)
 have HC6:=hid (fun (W:World) (hB:Below w.heap.size w W)=>(h.grown hB).c6)
 have HC0:=hid (fun (W:World) (hB:Below w.heap.size w W)=>(h.grown hB).c0)
 have HH:=hid h
 have HB:=hid hb
 rcases hg:rget s.R b with _ | x
 ·have HLK:Hid (s.look b=s.f b):=hid (by unfold Js.look over;rw [hg];rfl)
  have e1:(rget s.R b).getD Sh.noughts=Sh.noughts:=by rw [hg];rfl
  have e2:(rget s.R b).isSome=false:=by rw [hg];rfl
  rw [e1,e2] at HL
  have hX:=arr_facts (b:=Sh.noughts) Sh.noughts_sec
  generalize (bts Sh.noughts).toArray=X at *
  have HX:=hid hX
  clear h hg e1 e2 hb hX
  go_enter Tryz.func36,Tryz.ntmps36
  go_wp2_with fail
  refine HN.out.mono ?_
  rintro e w0 ⟨rfl,rfl⟩
  go_wp2_with fail
  refine HW.out.mono ?_
  rintro e w1 ⟨rfl,hb1⟩
  have c6:=HC6.out w1 hb1
  have hl:=HL.out w1 hb1
  have HB1:=hid hb1
  clear hb1
  go_wp2_with (with_reducible refine wpList_store_row rfl 147 (.tmp 6) (.tmp 23) rfl w1.heap.size _ rfl rfl 147 _ (heap_alloc_new w1 _) HX.out.1 HX.out.2.1 HX.out.2.2 ?_;obtain ⟨hb2,_⟩:=arr_new w1 X;generalize (w1.alloc (.cells Tryz.zeroCells147 147)).setRow w1.heap.size X=w2 at *;have HB2:=hid (HB1.out.trans (hb2.mono HB1.out.size));have c0:=HC0.out w2 HB2.out;clear hb2)
  have HG:=hid ((HH.out.grown HB2.out).get b HB.out)
  clear c0 c6 hl
  refine HG.out.mono ?_
  rintro e w3 ⟨A,cap,O3,rfl,hj,hmv,hby,hno⟩
  have H3:=hid (And.intro hj (And.intro (moves_below HB2.out hmv) (And.intro (show Sh.Bytes w w3 A (s.look b) from by rw [HLK.out];exact ⟨hby.1,fun ad ha=>⟨Nat.le_trans HB2.out.size (hby.2 ad ha).1,(hby.2 ad ha).2⟩⟩) hno)))
  clear hj hmv hby hno HG
  go_wp2
  go_ret2
  exact ⟨A,cap,O3,rfl,H3.out.1,H3.out.2.1,H3.out.2.2.1,H3.out.2.2.2⟩
 ·have HLK:Hid (s.look b=x):=hid (by unfold Js.look over;rw [hg];rfl)
  have e1:(rget s.R b).getD Sh.noughts=x:=by rw [hg];rfl
  have e2:(rget s.R b).isSome=true:=by rw [hg];rfl
  rw [e1,e2] at HL
  have hxs:=(h.mine _ (rget_some hg)).2
  have hX:=arr_facts (b:=x) hxs
  have HXX:Hid (∀W g,W.heap[g]?=some (.cells (bts x).toArray 147 (0,0))->w.heap.size<=g->Sh.Bytes w W (some ⟨g,0,none⟩) x):=hid fun W g hW hg=>⟨⟨by rw [Sh.bts_length,hxs.1],fun _=>⟨_,rfl,lt_of_block hW,fun j v hv=>by
   have e:(⟨g,0,none⟩:Addr).add j=⟨g,j,none⟩:=by unfold Addr.add;split<;>simp_all
   rw [e,cell_of_row _ _ j _ _ _ hW,List.getElem?_toArray];exact hv⟩⟩,fun ad ha=>by
   injection ha with ha
   subst ha
   refine ⟨hg,fun j _=>?_⟩
   have e:(⟨g,0,none⟩:Addr).add j=⟨g,j,none⟩:=by unfold Addr.add;split<;>simp_all
   rw [e];exact frozen_of_row _ _ _ _ _ hW⟩
  generalize (bts x).toArray=X at *
  have HX:=hid hX
  clear h hg e1 e2 hb hX hxs
  go_enter Tryz.func36,Tryz.ntmps36
  go_wp2_with fail
  refine HN.out.mono ?_
  rintro e w0 ⟨rfl,rfl⟩
  go_wp2_with fail
  refine HW.out.mono ?_
  rintro e w1 ⟨rfl,hb1⟩
  have c6:=HC6.out w1 hb1
  have hl:=HL.out w1 hb1
  have HB1:=hid hb1
  clear hb1
  go_wp2_with (with_reducible refine wpList_store_row rfl 147 (.tmp 6) (.tmp 23) rfl w1.heap.size _ rfl rfl 147 _ (heap_alloc_new w1 _) HX.out.1 HX.out.2.1 HX.out.2.2 ?_;obtain ⟨hb2,hrow2⟩:=arr_new w1 X;generalize (w1.alloc (.cells Tryz.zeroCells147 147)).setRow w1.heap.size X=w2 at *;have HB2:=hid (HB1.out.trans (hb2.mono HB1.out.size));have HBY:=hid (HXX.out w2 _ hrow2 HB1.out.size);clear hb2 hrow2)
  go_ret2
  refine ⟨_,_,O,rfl,(HH.out.grown HB2.out).less (Nat.le_add_right _ _),⟨(Go.Proofs.YtcnjpmcelihknaaGreatDoor.Kc.only_below HB2.out).mono (fun _ e=>e.elim),fun _ e=>.inl e⟩,by rw [HLK.out];exact HBY.out,fun ad ha e=>?_⟩
  injection ha with ha
  have:=HH.out.lt _ e
  rw [<- ha] at this
  have h2:=HB1.out.size
  simp only at this
  omega
end
open Go.Proofs.YtcnjpmcelihknaaGreatDoor.Kc (exec_arr exec_load_any wp_mapUpdate_p)
section
variable {S:StoK} {G:Jg} {w w':World} {O O':Nat->Prop} {s:Js} {k k':Nat}
theorem Jou.drewn (h:Jou S G w O s k):Jou S G w.drew O s k:=h.grown (Below.refl _ w).drew
theorem jTakes {p fi le:Nat} {mv:Value} {f:Nat->Sh.Bs} {C:Nat->Prop} {sq a u m:Nat} (h:Jst S p fi le mv w O f C sq a u k) (n:Int) (A:Option Addr) (len c:Nat) (_:len<=maxLen):Calls Tryz.prog 87 #[.pointer (some ⟨p,0,none⟩),.int .i64 n,.slice A len c] w fun e w'=>e=.returned (.bool (ownB S ⟨p,m,fi,le⟩ n && decide (len=128)))/\Below w.heap.size w w':=by
 have HW:=hid (jOwns (m:=m) h n)
 clear h
 cases ho:ownB S ⟨p,m,fi,le⟩ n with
 | false =>
  rw [ho] at HW
  clear ho
  go_enter Tryz.func87,Tryz.ntmps87
  go_wp2_with fail
  refine HW.out.mono ?_
  rintro e w1 ⟨rfl,hb⟩
  have HB:=hid hb
  clear hb
  go_wp2
  go_ret
  exact ⟨rfl,HB.out⟩
 | true =>
  rw [ho] at HW
  clear ho
  by_cases hl:len=128
  ·subst hl
   go_enter Tryz.func87,Tryz.ntmps87
   go_wp2_with fail
   refine HW.out.mono ?_
   rintro e w1 ⟨rfl,hb⟩
   have HB:=hid hb
   clear hb
   go_wp2
   go_ret
   exact ⟨rfl,HB.out⟩
  ·have q:((len:Int) == 128)=false:=by simp;omega
   have e0:decide (len=128)=false:=decide_eq_false hl
   rw [e0]
   clear hl e0
   go_enter Tryz.func87,Tryz.ntmps87
   go_wp2_with fail
   refine HW.out.mono ?_
   rintro e w1 ⟨rfl,hb⟩
   have HB:=hid hb
   clear hb
   go_wp2
   go_ret
   exact ⟨rfl,HB.out⟩
theorem Jou.takes (h:Jou S G w O s k) (n:Int) (A:Option Addr) (len c:Nat) (hm:len<=maxLen):Calls Tryz.prog 87 #[.pointer (some ⟨G.p,0,none⟩),.int .i64 n,.slice A len c] w fun e w'=>e=.returned (.bool (ownB S G n && decide (len=128)))/\Below w.heap.size w w':=by
 obtain ⟨O0,C,hj,_⟩:=h.st;exact jTakes (m:=G.m) hj n A len c hm
set_option maxRecDepth 20000 in
theorem jWrite (h:Jou S G w O s k) (b:Nat) (hb:mine S G b) {A:Option Addr} {x:Sh.Bs} (c:Nat) (hA:Sh.Beside w O A x) (hx:Sh.Sec x) (hf:rget s.R b≠none\/s.R.length<24):Calls Tryz.prog 31 #[.pointer (some ⟨G.p,0,none⟩),.int .i64 (b:Int),.slice A 128 c] w fun e w'=>e=.returned (.int .i64 0)/\Jou S G w' O { s with R:=rput s.R b x } k/\Sh.Moves O w O w':=by
 have HN:=hid h.isn
 have HW:=hid (h.takes (b:Int) A 128 c (by decide))
 rw [ownB_mine.2 hb] at HW
 have hbm:b<=1073741824:=by have:=hb.1;have:=S.nmax;omega
 have HL:=hid (fun (W:World) (hB:Below w.heap.size w W)=>(h.grown hB).map.look b hbm)
 have HLN:=hid (fun (W:World) (hB:Below w.heap.size w W)=>(h.grown hB).map.len)
 have HC6:=hid (fun (W:World) (hB:Below w.heap.size w W)=>(h.grown hB).c6)
 have HS:=hid (fun (W:World) (hB:Below w.heap.size w W)=>(h.grown hB).map.store (by have:=h.few;omega) b hbm x)
 obtain ⟨ad,rfl,hab,hac⟩:=hA.1.2 (by decide)
 have hnO:¬O ad.block:=hA.2 ad rfl
 have HA:=hid (And.intro hab (And.intro hac hnO))
 have HI:Hid ((Tryz.prog.info? 147).map (·.size)=some (bts x).length):=hid (by rw [info_arr,bts_length,hx.1])
 have HH:=hid h
 have HB:=hid hb
 have HXS:=hid hx
 have hfew:(rput s.R b x).length<=24:=by
  have:=h.few
  rcases hg:rget s.R b with _ | y
  ·rw [rput_length_new x hg]
   rcases hf with q | q
   ·exact absurd hg q
   ·omega
  ·rw [rput_length_old h.rises x hg];omega
 have HFEW:=hid hfew
 have hys:Sh.Sec ((rget s.R b).getD Sh.noughts):=by
  rcases hg:rget s.R b with _ | y
  ·exact Sh.noughts_sec
  ·exact (h.mine _ (rget_some hg)).2
 have hX:=arr_facts (b:=(rget s.R b).getD Sh.noughts) hys
 have HGG:Hid (((rget s.R b).isSome=true)\/((s.R.length:Int) == 24)=false):=hid (by
  rcases hf with q | q
  ·left;cases hg:rget s.R b with
   | none=>exact absurd hg q
   | some _=>rfl
  ·right;simp;omega)
 generalize (bts ((rget s.R b).getD Sh.noughts)).toArray=Y at *
 generalize (rget s.R b).isSome=has at *
 have HY:=hid hX
 generalize hbi:(b:Int)=bi at *
 have HBI:=hid hbi
 clear h hb hX hf hfew hys hx hab hac hnO hA hbi
 go_enter Tryz.func31,Tryz.ntmps31
 go_wp2_with fail
 refine HN.out.mono ?_
 rintro e w0 ⟨rfl,rfl⟩
 go_wp2_with fail
 refine HW.out.mono ?_
 rintro e w1 ⟨rfl,hb1⟩
 have c6:=HC6.out w1 hb1
 have hl:=HL.out w1 hb1
 have HB1:=hid hb1
 clear hb1
 cases has with
 | true =>
  clear HGG
  go_wp2_with (with_reducible refine wpList_store_row rfl 147 (.tmp 7) (.tmp 25) rfl w1.heap.size _ rfl rfl 147 _ (heap_alloc_new w1 _) HY.out.1 HY.out.2.1 HY.out.2.2 ?_;obtain ⟨hb2,_⟩:=arr_new w1 Y;generalize (w1.alloc (.cells Tryz.zeroCells147 147)).setRow w1.heap.size Y=w2 at *;have HB2:=hid (HB1.out.trans (hb2.mono HB1.out.size));clear hb2;have c62:=HC6.out w2 HB2.out;have hln:=HLN.out w2 HB2.out)
  obtain ⟨wz,hrun,hrm,hro⟩:=HS.out w2.drew (HB2.out.drew)
  have HU:=hid (And.intro hrun (And.intro hrm hro):(Instr.mapUpdate 142 (.map (some G.m)) (.int .i64 bi) (.agg (bts x).toArray)).run Tryz.prog w2.drew=.ok () wz/\RMap wz G.m (rput s.R b x)/\Sh.Only (fun b=>b=G.m) w2.drew wz)
  have HHW0:Hid (w2.drew.cell? ⟨G.p,6,none⟩=some (.map (some G.m))/\∀(j:Nat) (v:Value),(bts x)[j]?=some v->w2.drew.cell? (ad.add j)=some v):=hid ⟨c62,fun j v hv=>(HB2.out.cell (p:=ad.add j) (by rw [block_of_add];exact HA.out.1)).trans (HA.out.2.1 j v hv)⟩
  have HHW:Hid (wz.cell? ⟨G.p,6,none⟩=some (.map (some G.m))/\∀(j:Nat) (v:Value),(bts x)[j]?=some v->wz.cell? (ad.add j)=some v):=hid ⟨(hro.cell (p:=⟨G.p,6,none⟩) (Nat.lt_of_lt_of_le HH.out.plt HB2.out.size) HH.out.pm).trans HHW0.out.1,fun j v hv=>(hro.cell (p:=ad.add j) (by rw [block_of_add];exact Nat.lt_of_lt_of_le HA.out.1 HB2.out.size) (by rw [block_of_add];intro e;exact HA.out.2.2 (by rw [e];exact HH.out.inm))).trans (HHW0.out.2 j v hv)⟩
  clear hrun hrm hro c6 hl c62 hln
  refine wp_region_held_drew (S:=fun (W:World)=>W.cell? ⟨G.p,6,none⟩=some (.map (some G.m))/\∀(j:Nat) (v:Value),(bts x)[j]?=some v->W.cell? (ad.add j)=some v) (by kernel_rfl) HHW0.out (fun hHeld=>?_)
  refine tq 0 37 ?_
  refine tq 1 38 ?_
  refine tq 2 39 ?_
  refine tq 3 40 ?_
  refine tq 4 41 ?_
  refine tq 5 42 ?_
  refine wpAnyH_take (i:=6) (oi:=⟨some 43,_,_,_,_,_⟩) (v:=.pointer (some ad)) rfl (by kernel_rfl) (by kernel_rfl) (by kernel_rfl) (fun _ _ _ h=>h) (Or.inl ⟨by rfl,fun W hW=>exec_arr (.tmp 42) rfl (some ad) c rfl⟩) (by assumption) ?_
  try simp only [Act.put,List.setIfInBounds_toArray,List.set_cons_zero,List.set_cons_succ]
  refine wpAnyH_take (i:=7) (oi:=⟨some 44,_,_,_,_,_⟩) (v:=.agg (bts x).toArray) rfl (by kernel_rfl) (by kernel_rfl) (by kernel_rfl) (fun _ _ _ h=>h) (Or.inl ⟨by rfl,fun W hW=>exec_load_any 147 (.tmp 43) rfl ad rfl (bts x) _ hW.2 Tryz.underlying147 rfl HI.out⟩) (by assumption) ?_
  try simp only [Act.put,List.setIfInBounds_toArray,List.set_cons_zero,List.set_cons_succ]
  refine rq 8 (none) fun K hK=>?_
  refine wp_mapUpdate_p _ _ _ 142 rfl (.map (some G.m)) (.int .i64 bi) (.agg (bts x).toArray) rfl rfl rfl HU.out.1 ?_
  refine hK.out _ _ HHW.out (fun hHeld=>?_)
  clear hK K
  try simp only [Act.put]
  refine wpAnyH_done (by kernel_rfl) ?_ _
  go_wp2
  go_ret
  have hset:=(HH.out.grown HB2.out).drewn.setR (w':=wz) HU.out.2.1 HU.out.2.2 (rput_rises HH.out.rises b x) HFEW.out (fun z hz=>(rput_mem.1 hz).elim (fun e=>by rw [e];exact ⟨HB.out,HXS.out⟩) (fun e=>HH.out.mine z e.1))
  exact ⟨rfl,hset.1,moves_below (HB2.out.drew) hset.2⟩
 | false =>
  have hne:((s.R.length:Int) == 24)=false:=HGG.out.resolve_left Bool.false_ne_true
  clear HGG
  go_wp2_with (with_reducible refine wpList_store_row rfl 147 (.tmp 7) (.tmp 25) rfl w1.heap.size _ rfl rfl 147 _ (heap_alloc_new w1 _) HY.out.1 HY.out.2.1 HY.out.2.2 ?_;obtain ⟨hb2,_⟩:=arr_new w1 Y;generalize (w1.alloc (.cells Tryz.zeroCells147 147)).setRow w1.heap.size Y=w2 at *;have HB2:=hid (HB1.out.trans (hb2.mono HB1.out.size));clear hb2;have c62:=HC6.out w2 HB2.out;have hln:=HLN.out w2 HB2.out)
  obtain ⟨wz,hrun,hrm,hro⟩:=HS.out w2.drew (HB2.out.drew)
  have HU:=hid (And.intro hrun (And.intro hrm hro):(Instr.mapUpdate 142 (.map (some G.m)) (.int .i64 bi) (.agg (bts x).toArray)).run Tryz.prog w2.drew=.ok () wz/\RMap wz G.m (rput s.R b x)/\Sh.Only (fun b=>b=G.m) w2.drew wz)
  have HHW0:Hid (w2.drew.cell? ⟨G.p,6,none⟩=some (.map (some G.m))/\∀(j:Nat) (v:Value),(bts x)[j]?=some v->w2.drew.cell? (ad.add j)=some v):=hid ⟨c62,fun j v hv=>(HB2.out.cell (p:=ad.add j) (by rw [block_of_add];exact HA.out.1)).trans (HA.out.2.1 j v hv)⟩
  have HHW:Hid (wz.cell? ⟨G.p,6,none⟩=some (.map (some G.m))/\∀(j:Nat) (v:Value),(bts x)[j]?=some v->wz.cell? (ad.add j)=some v):=hid ⟨(hro.cell (p:=⟨G.p,6,none⟩) (Nat.lt_of_lt_of_le HH.out.plt HB2.out.size) HH.out.pm).trans HHW0.out.1,fun j v hv=>(hro.cell (p:=ad.add j) (by rw [block_of_add];exact Nat.lt_of_lt_of_le HA.out.1 HB2.out.size) (by rw [block_of_add];intro e;exact HA.out.2.2 (by rw [e];exact HH.out.inm))).trans (HHW0.out.2 j v hv)⟩
  clear hrun hrm hro c6 hl c62 hln
  refine wp_region_held_drew (S:=fun (W:World)=>W.cell? ⟨G.p,6,none⟩=some (.map (some G.m))/\∀(j:Nat) (v:Value),(bts x)[j]?=some v->W.cell? (ad.add j)=some v) (by kernel_rfl) HHW0.out (fun hHeld=>?_)
  refine tq 0 37 ?_
  refine tq 1 38 ?_
  refine tq 2 39 ?_
  refine tq 3 40 ?_
  refine tq 4 41 ?_
  refine tq 5 42 ?_
  refine wpAnyH_take (i:=6) (oi:=⟨some 43,_,_,_,_,_⟩) (v:=.pointer (some ad)) rfl (by kernel_rfl) (by kernel_rfl) (by kernel_rfl) (fun _ _ _ h=>h) (Or.inl ⟨by rfl,fun W hW=>exec_arr (.tmp 42) rfl (some ad) c rfl⟩) (by assumption) ?_
  try simp only [Act.put,List.setIfInBounds_toArray,List.set_cons_zero,List.set_cons_succ]
  refine wpAnyH_take (i:=7) (oi:=⟨some 44,_,_,_,_,_⟩) (v:=.agg (bts x).toArray) rfl (by kernel_rfl) (by kernel_rfl) (by kernel_rfl) (fun _ _ _ h=>h) (Or.inl ⟨by rfl,fun W hW=>exec_load_any 147 (.tmp 43) rfl ad rfl (bts x) _ hW.2 Tryz.underlying147 rfl HI.out⟩) (by assumption) ?_
  try simp only [Act.put,List.setIfInBounds_toArray,List.set_cons_zero,List.set_cons_succ]
  refine rq 8 (none) fun K hK=>?_
  refine wp_mapUpdate_p _ _ _ 142 rfl (.map (some G.m)) (.int .i64 bi) (.agg (bts x).toArray) rfl rfl rfl HU.out.1 ?_
  refine hK.out _ _ HHW.out (fun hHeld=>?_)
  clear hK K
  try simp only [Act.put]
  refine wpAnyH_done (by kernel_rfl) ?_ _
  go_wp2
  go_ret
  have hset:=(HH.out.grown HB2.out).drewn.setR (w':=wz) HU.out.2.1 HU.out.2.2 (rput_rises HH.out.rises b x) HFEW.out (fun z hz=>(rput_mem.1 hz).elim (fun e=>by rw [e];exact ⟨HB.out,HXS.out⟩) (fun e=>HH.out.mine z e.1))
  exact ⟨rfl,hset.1,moves_below (HB2.out.drew) hset.2⟩
end
section
variable {S:StoK} {p fi le:Nat} {mv:Value} {w w':World} {O O':Nat->Prop} {f f':Nat->Sh.Bs} {C C':Nat->Prop} {sq a u k k':Nat}
theorem Jst.set5 (h:Jst S p fi le mv w O f C sq a u k) (x:Nat):Jst S p fi le mv (w.setCell ⟨p,5,none⟩ (.int .i64 (x:Int))) O f C sq a x k/\Sh.Only (fun b=>b=p) w (w.setCell ⟨p,5,none⟩ (.int .i64 (x:Int))):=by
 have ho:Sh.Only (fun b=>b=p) w (w.setCell ⟨p,5,none⟩ (.int .i64 (x:Int))):=(Sh.Only.refl (fun b=>b=p) w).setCell (p:=⟨p,5,none⟩) (.inl rfl) _
 exact ⟨⟨heap_setCell_same _ _ _ _ _ _ h.root,S.stays h.is ho (fun b hb=>by rw [hb];exact h.np),h.np,h.lay,h.ring,h.num⟩,ho⟩
theorem Jst.set3 (h:Jst S p fi le mv w O f C sq a u k) (x:Nat):Jst S p fi le mv (w.setCell ⟨p,3,none⟩ (.int .i64 (x:Int))) O f C x a u k/\Sh.Only (fun b=>b=p) w (w.setCell ⟨p,3,none⟩ (.int .i64 (x:Int))):=by
 have ho:Sh.Only (fun b=>b=p) w (w.setCell ⟨p,3,none⟩ (.int .i64 (x:Int))):=(Sh.Only.refl (fun b=>b=p) w).setCell (p:=⟨p,3,none⟩) (.inl rfl) _
 exact ⟨⟨heap_setCell_same _ _ _ _ _ _ h.root,S.stays h.is ho (fun b hb=>by rw [hb];exact h.np),h.np,h.lay,h.ring,h.num⟩,ho⟩
def MovesJ (p:Nat) (O:Nat->Prop) (w:World) (O':Nat->Prop) (w':World):Prop:=Sh.Moves (fun b=>O b\/b=p) w (fun b=>O' b\/b=p) w'
theorem MovesJ.of (hm:Sh.Moves O w O' w'):MovesJ p O w O' w' :=
 ⟨hm.1.mono fun _ e=>.inl e,fun b e=>e.elim (fun e=>(hm.2 b e).imp .inl id) (fun e=>.inl (.inr e))⟩
theorem MovesJ.own (ho:Sh.Only (fun b=>b=p) w w'):MovesJ p O w O w' :=
 ⟨ho.mono fun _ e=>.inr e,fun _ e=>.inl e⟩
theorem MovesJ.trans {w'':World} {O'':Nat->Prop} (h1:MovesJ p O w O' w') (h2:MovesJ p O' w' O'' w''):MovesJ p O w O'' w'':=Sh.Moves.trans h1 h2
theorem jCheckpoint (h:Jst S p fi le mv w O f C sq a u (k+1102)) (h1:1<=sq) (h2:sq<=4611686018427387904):Calls Tryz.prog 41 #[.pointer (some ⟨p,0,none⟩)] w fun e w' =>
  ∃O',e=.returned (.int .i64 0)/\Jst S p fi le mv w' O' (fset f fi (sealL headM sq [a])) C sq a 0 k/\MovesJ p O w O' w':=by
 have HN:=hid (jNone h)
 have c0:=h.c0
 have HF:=hid (S.flush (S.less h.is (show k+2+1100<=k+1102 by omega)))
 have HH:=hid h
 clear h
 go_enter Tryz.func41,Tryz.ntmps41
 go_wp2_with fail
 refine HN.out.mono ?_
 rintro e w0 ⟨rfl,rfl⟩
 go_wp2_with fail
 refine HF.out.mono ?_
 rintro e w1 ⟨O1,rfl,hi,hmv⟩
 have hj:=HH.out.moved hi hmv
 have HWH:=hid (jWriteHead hj h1 h2)
 have H1:=hid hmv
 clear hi hmv c0 hj
 go_wp2_with fail
 refine HWH.out.mono ?_
 rintro e w2 ⟨O2,rfl,hj,hmv⟩
 have c5:=hj.c5
 have f5:=hj.free 5
 have H2:=hid (And.intro (hj.set5 0) (H1.out.trans hmv))
 clear hj hmv HWH
 go_wp2
 go_ret
 exact ⟨O2,rfl,H2.out.1.1,(MovesJ.of H2.out.2).trans (MovesJ.own H2.out.1.2)⟩
end
section
variable {S:StoK} {w w':World} {O O':Nat->Prop} {f f':Nat->Sh.Bs} {C C':Nat->Prop} {k k':Nat}
def fitsB (n:Nat) (fi le:Int):Bool:=decide (0<=fi/\28<=le/\fi<=(n:Int)-le)
theorem jFits (h:S.Is w O f C k) (fi le:Int) (hl:le<=9223372036854775807):Calls Tryz.prog 77 #[.pointer (some ⟨S.c,0,none⟩),.int .i64 fi,.int .i64 le] w fun e w'=>e=.returned (.bool (fitsB S.n fi le))/\Below w.heap.size w w':=by
 have HV:=hid (S.volume h)
 have HS:=hid (S.size h)
 have HO:Hid (fitsB S.n fi le=decide (0<=fi/\28<=le/\fi<=(S.n:Int)-le)):=hid rfl
 have hn:=S.nmax
 generalize fitsB S.n fi le=ob at *
 have hn2:(S.n:Int)<=65535/\0<=(S.n:Int):=by omega
 generalize (S.n:Int)=sn at *
 clear h hn
 by_cases h1:0<=fi
 ·have q1:decide (fi≥0)=true:=by simpa using h1
  by_cases h2:28<=le
  ·have q2:decide (le≥28)=true:=by simpa using h2
   have wz:IntKind.i64.wrap (sn-le)=sn-le:=by rw [IntKind.wrap_i64];omega
   have HX:Hid (ob=decide (fi<=sn-le)):=hid (by rw [HO.out];congr 1;simp only [eq_iff_iff];omega)
   clear hn2 h1 h2
   go_enter Tryz.func77,Tryz.ntmps77
   go_wp2_with fail
   refine HV.out.mono ?_
   rintro e w0 ⟨rfl,rfl⟩
   go_wp2_with fail
   refine HS.out.mono ?_
   rintro e w1 ⟨rfl,hb⟩
   have HB:=hid hb
   clear hb
   go_wp2
   go_ret
   exact ⟨by rw [HX.out];rfl,HB.out⟩
  ·have q2:decide (le≥28)=false:=by simpa using h2
   have HX:Hid (ob=false):=hid (by rw [HO.out,decide_eq_false_iff_not];omega)
   clear hn2 h1 h2
   go_enter Tryz.func77,Tryz.ntmps77
   go_wp2
   go_ret
   exact ⟨by rw [HX.out];rfl,Below.refl _ _⟩
 ·have q1:decide (fi≥0)=false:=by simpa using h1
  have HX:Hid (ob=false):=hid (by rw [HO.out,decide_eq_false_iff_not];omega)
  clear hn2 h1
  go_enter Tryz.func77,Tryz.ntmps77
  go_wp2
  go_ret
  exact ⟨by rw [HX.out];rfl,Below.refl _ _⟩
end
theorem rq2 {P:Program} {md:Region.Mode} {ops:Array Oper} {Q:Exit->Act->World->Prop} {S:World->Prop} (i j:Nat) (d d2:Option Nat) {op op2:Op} {ty ty2:TypeId} {pos pos2:String} {aft aft2:Array Edge} {gd gd2:Option (Nat × Bool)} {fuel:Nat} {listed:Array Bool} {a:Act} {w:World}
  (h:∀K':Act->World->Prop,Shut (∀a w,S w->(S w->wpAnyH P md ops Q S fuel (listed.setIfInBounds i true) a w)->K' a w)->if Region.wanted ⟨d,op,ty,pos,aft,gd⟩ (yielded ops a.tmps)=true then Oper.wp P ⟨d,op,ty,pos,aft,gd⟩ a w K' Q else K' (a.put d undef) w)
  (h2:∀K':Act->World->Prop,Shut (∀a w,S w->(S w->wpAnyH P md ops Q S fuel (listed.setIfInBounds j true) a w)->K' a w)->if Region.wanted ⟨d2,op2,ty2,pos2,aft2,gd2⟩ (yielded ops a.tmps)=true then Oper.wp P ⟨d2,op2,ty2,pos2,aft2,gd2⟩ a w K' Q else K' (a.put d2 undef) w)
  (hi:ops[i]?=some ⟨d,op,ty,pos,aft,gd⟩:=by rfl) (hj:ops[j]?=some ⟨d2,op2,ty2,pos2,aft2,gd2⟩:=by rfl) (hr:Region.ready md ops listed=[i,j]:=by kernel_rfl):wpAnyH P md ops Q S (fuel+1) listed a w :=
 wpAnyH_ready hr (by simp) (AllReadyH.cons hi h (AllReadyH.cons hj h2 AllReadyH.nil))
theorem wp_make128 {o:Oper} {a:Act} {w:World} {K:Act->World->Prop} {Q:Exit->Act->World->Prop} (l c:Operand) (hop:o.op=Op.makeSlice 24 l c) (hl:a.eval l=.int .i64 128) (hc:a.eval c=.int .i64 128)
  (hK:∀w',w'.ownsRow w.heap.size 5 1 (.slice (some ⟨w.heap.size,0,none⟩) 128 128) 128 (Sh.bts Sh.noughts)->Below w.heap.size w w'->K (a.put o.dst (.slice (some ⟨w.heap.size,0,none⟩) 128 128)) w'):Oper.wp Tryz.prog o a w K Q:=by
 obtain ⟨i1,ki,kz0,kz1,kz2⟩:=info_parts (show (Tryz.prog.info? 5).map (fun i=>(i.zero,i.size,i.bytes))=some (some (.int .u8 0),1,1) by kernel_rfl)
 obtain ⟨w',hrun,r1,r2⟩:=run_make_full (P:=Tryz.prog) w w.heap.size 24 5 i1 _ 1 Tryz.underlying24 ki kz0 kz1 .i64 .i64 128 (by rw [kz2];omega) (by unfold maxLen;omega) (Nat.le_refl _)
 have hrun':(Instr.makeSlice 24 (.int .i64 128) (.int .i64 128)).run Tryz.prog w=.ok (.slice (some ⟨w.heap.size,0,none⟩) 128 128) w':=hrun
 unfold Oper.wp
 simp [execOp,hop,hl,hc,hrun',Result.andThen]
 exact hK _ (Sh.noughts_own r1) ((Below.refl _ w).grown r2 (Nat.le_refl _) (fun _ h=>by cases h))
section
variable {S:StoK} {w w':World} {O O':Nat->Prop} {f f':Nat->Sh.Bs} {C C':Nat->Prop} {k k':Nat}
theorem beside_new {v:World} (h:w.ownsRow v.heap.size 5 1 (.slice (some ⟨v.heap.size,0,none⟩) 128 128) 128 (Sh.bts Sh.noughts)) (hO:∀b,O b->b<v.heap.size):Sh.Beside w O (some ⟨v.heap.size,0,none⟩) Sh.noughts:=by
 obtain ⟨B,cap,e,hrd,_,_⟩:=own_shape h
 injection e with e1 e2 e3
 subst e1
 exact ⟨hrd,fun a ha q=>by injection ha with ha;have:=hO _ q;rw [<- ha] at this;exact Nat.lt_irrefl _ this⟩
def ringF (f:Nat->Sh.Bs) (fi n:Nat) (j:Nat):Sh.Bs:=if fi<j/\j<fi+1+n then Sh.noughts else f j
theorem ringF_zero (f:Nat->Sh.Bs) (fi:Nat):ringF f fi 0=f:=by
 funext j;unfold ringF;rw [if_neg (by omega)]
theorem ringF_next (f:Nat->Sh.Bs) (fi n:Nat):fset (ringF f fi n) (fi+1+n) Sh.noughts=ringF f fi (n+1):=by
 funext j;unfold fset ringF
 by_cases h:j=fi+1+n
 ·rw [if_pos h,if_pos (by omega)]
 ·rw [if_neg h]
  by_cases h2:fi<j/\j<fi+1+n
  ·rw [if_pos h2,if_pos (by omega)]
  ·rw [if_neg h2,if_neg (by omega)]
def fmtF (f:Nat->Sh.Bs) (fi le:Nat):Nat->Sh.Bs:=fset (ringF f fi (le-1)) fi (sealL headM 1 [0])
theorem place0 {fi le i:Nat} (h:i<le-1):placeN fi le 0 i=fi+1+i:=by
 unfold placeN;rw [Nat.zero_add,Nat.mod_eq_of_lt h]
set_option maxRecDepth 20000 in
theorem jFormat (fi le:Nat) (h:S.Is w O f C (k+(le+2))) (h28:28<=le) (hn:fi+le<=S.n) (hC:∀b,fi<=b->b<fi+le->C b) :
  Calls Tryz.prog 29 #[.pointer (some ⟨S.c,0,none⟩),.int .i64 (fi:Int),.int .i64 (le:Int)] w fun e w'=>∃O',e=.returned (.int .i64 0)/\S.Is w' O' (fmtF f fi le) C k/\Sh.Moves O w O' w':=by
 have hle:le<=65535:=by have:=S.nmax;omega
 have hfi:fi<=65535:=by have:=S.nmax;omega
 have HF:=hid (jFits h (fi:Int) (le:Int) (by omega))
 rw [show fitsB S.n fi le=true from decide_eq_true (by omega)] at HF
 have HH:=hid (And.intro h (And.intro h28 (And.intro hn hC)))
 clear h hC hn
 go_enter Tryz.func29,Tryz.ntmps29
 go_wp2_with fail
 refine HF.out.mono ?_
 rintro e w1 ⟨rfl,hb⟩
 have HB:=hid hb
 clear hb
 go_wp2
 have hj:Jst S w1.heap.size fi le (.map none) (w1.alloc (.cells #[.pointer (some ⟨S.c,0,none⟩),.int .i64 (fi:Int),.int .i64 (le:Int),.int .i64 1,.int .i64 0,.int .i64 0,.map none] 144)) O f C 1 0 0 (k+(le+2)) :=
  ⟨heap_alloc_new w1 _,S.grown HH.out.1 ((HB.out.alloc HB.out.size _)),fun e=>by have h1:=S.lt HH.out.1 _ e;have:=HB.out.size;omega,HH.out.2.1 |> fun h=>⟨h,HH.out.2.2.1⟩,HH.out.2.2.2,by omega⟩
 have hb2:Below w.heap.size w (w1.alloc (.cells #[.pointer (some ⟨S.c,0,none⟩),.int .i64 (fi:Int),.int .i64 (le:Int),.int .i64 1,.int .i64 0,.int .i64 0,.map none] 144)):=HB.out.alloc HB.out.size _
 have hpp:w.heap.size<=w1.heap.size:=HB.out.size
 generalize w1.alloc (.cells #[.pointer (some ⟨S.c,0,none⟩),.int .i64 (fi:Int),.int .i64 (le:Int),.int .i64 1,.int .i64 0,.int .i64 0,.map none] 144)=w2 at *
 generalize w1.heap.size=p at *
 have HJ:=hid (And.intro hj (And.intro hb2 hpp))
 have HV:=hid (jVolume hj)
 clear hj hb2 hpp HB
 refine wp_region_held_drew (S:=fun _=>True) (by kernel_rfl) trivial (fun hHeld=>?_)
 refine tq 0 22 ?_
 refine rq2 1 2 (some 23) (some 24) (fun K hK=>?_) (fun K hK=>?_)
 ·go_simp
  refine (HV.out _ (below_drewN (Below.refl _ _) 1)).mono ?_
  rintro e w3 ⟨rfl,rfl⟩
  refine hK.out _ _ trivial (fun hHeld=>?_)
  clear hK K
  try simp only [Act.put,List.setIfInBounds_toArray,List.set_cons_zero,List.set_cons_succ]
  refine tq 3 8 ?_
  refine rq 2 (some 24) fun K hK=>?_
  rw [if_pos (by rfl)]
  refine wp_make128 _ _ rfl rfl rfl (fun wm hom hgm=>?_)
  refine hK.out _ _ trivial (fun hHeld=>?_)
  clear hK K
  try simp only [Act.put,List.setIfInBounds_toArray,List.set_cons_zero,List.set_cons_succ]
  refine tq 4 9 ?_
  refine wpAnyH_done (by kernel_rfl) ?_ _
  have hw3:=(below_drewN (Below.refl _ w2) 1).trans (hgm.mono (Nat.le_refl _))
  have HE:=hid (And.intro (show Sh.Beside wm O (some ⟨w2.heap.size,0,none⟩) Sh.noughts from beside_new (v:=w2.drew) hom (fun b hb=>Nat.lt_of_lt_of_le (S.lt HH.out.1 b hb) HJ.out.2.1.size)) (And.intro (HJ.out.1.grown hw3) (HJ.out.2.1.trans (hw3.mono HJ.out.2.1.size))))
  clear hom hgm hw3 hHeld HV
  have hg0:w2.heap.size<=w2.heap.size:=Nat.le_refl _
  generalize w2.heap.size=g at *
  have HR:=hid (jRing HE.out.2.1)
  have c0:=HE.out.2.1.c0
  go_wp2_with fail
  refine HR.out.mono ?_
  rintro e w4 ⟨rfl,rfl⟩
  go_wp2
  clear HR
  go_loopw [10,11,26] (fun s10 s11 s26 wr=>∃i Oi,i<=le-1/\s26=.int .i64 ((i:Nat):Int)/\Hid (Jst S p fi le (.map none) wr Oi (ringF f fi i) C 1 0 0 (k+3+(le-1-i))/\Sh.Moves O wm Oi wr/\Sh.Beside wr Oi (some ⟨g,0,none⟩) Sh.noughts)) (fun _ _ i _=>le-(intOf i).toNat)
  case atStart=>exact ⟨0,O,Nat.zero_le _,rfl,hid ⟨by rw [ringF_zero];exact HE.out.2.1.less (by omega),Sh.Moves.refl _ _,HE.out.1⟩⟩
  case round =>
   obtain ⟨i,Oi,hi,rfl,hR⟩:=hrel
   by_cases hlt:i<le-1
   ·have q:decide (((i:Nat):Int)<((le-1:Nat):Int))=true:=by simp;omega
    have HP:=hid (jPlace hR.out.1 i (by omega))
    rw [place0 hlt] at HP
    have HW:=hid (fun nq=>S.vwrite (fi+1+i) 128 (S.less (hR.out.1.grown (below_drewN (Below.refl _ wr) nq)).is (show k+3+(le-1-(i+1))+1<=k+3+(le-1-i) by omega)) (by have:=HH.out.2.2.1;omega) (HH.out.2.2.2 _ (by omega) (by omega)) (beside_below hR.out.2.2 (below_drewN (Below.refl _ wr) nq)) Sh.noughts_sec)
    have HNX:=hid (ringF_next f fi i)
    generalize fi+1+i=pl at *
    go_wp2_with fail
    refine HP.out.mono ?_
    rintro e w5 ⟨rfl,nq,rfl⟩
    go_wp2_with fail
    refine (HW.out nq).mono ?_
    rintro e w6 ⟨O6,rfl,his,hmv⟩
    have hb4:=beside_below (O:=Oi) hR.out.2.2 (below_drewN (Below.refl _ wr) nq)
    have H6:=hid (And.intro ((hR.out.1.grown (below_drewN (Below.refl _ wr) nq)).moved his hmv) (And.intro (hR.out.2.1.trans (moves_below (below_drewN (Below.refl _ wr) nq) hmv)) (hb4.moves hmv)))
    clear his hmv hb4 HW HP
    go_wp2
    go_roundw
    case rel=>exact ⟨i+1,O6,by omega,by go_num,hid ⟨by rw [<- HNX.out];exact H6.out.1,H6.out.2.1,H6.out.2.2⟩⟩
    case measure=>simp [intOf];omega
   ·obtain rfl:i=le-1:=by omega
    clear c0
    have HFL:=hid (S.vflush (S.less hR.out.1.is (show k+2+1<=k+3+(le-1-(le-1)) by omega)))
    go_wp2_with fail
    refine HFL.out.mono ?_
    rintro e w5 ⟨O5,rfl,his,hmv⟩
    have hj5:=hR.out.1.moved his hmv
    have HWH:=hid (jWriteHead hj5 (Nat.le_refl _) (by decide))
    have H5:=hid (hR.out.2.1.trans hmv)
    clear his hmv hj5 HFL
    go_wp2_with fail
    refine HWH.out.mono ?_
    rintro e w6 ⟨O6,rfl,hj6,hmv⟩
    have H6:=hid (And.intro hj6.is (moves_below HE.out.2.2 (H5.out.trans hmv)))
    clear hj6 hmv HWH
    go_wp2
    go_ret
    exact ⟨O6,rfl,H6.out.1,H6.out.2⟩
 ·rw [if_pos (by rfl)]
  refine wp_make128 _ _ rfl rfl rfl (fun wm hom hgm=>?_)
  refine hK.out _ _ trivial (fun hHeld=>?_)
  clear hK K
  try simp only [Act.put,List.setIfInBounds_toArray,List.set_cons_zero,List.set_cons_succ]
  refine rq 1 (some 23) fun K hK=>?_
  go_simp
  refine (HV.out _ ((below_drewN (Below.refl _ _) 1).trans (hgm.mono (Nat.le_refl _)))).mono ?_
  rintro e w3 ⟨rfl,rfl⟩
  refine hK.out _ _ trivial (fun hHeld=>?_)
  clear hK K
  try simp only [Act.put,List.setIfInBounds_toArray,List.set_cons_zero,List.set_cons_succ]
  refine tq 3 8 ?_
  refine tq 4 9 ?_
  refine wpAnyH_done (by kernel_rfl) ?_ _
  have hw3:=(below_drewN (Below.refl _ w2) 1).trans (hgm.mono (Nat.le_refl _))
  have HE:=hid (And.intro (show Sh.Beside wm O (some ⟨w2.heap.size,0,none⟩) Sh.noughts from beside_new (v:=w2) hom (fun b hb=>Nat.lt_of_lt_of_le (S.lt HH.out.1 b hb) HJ.out.2.1.size)) (And.intro (HJ.out.1.grown hw3) (HJ.out.2.1.trans (hw3.mono HJ.out.2.1.size))))
  clear hom hgm hw3 hHeld HV
  have hg0:w2.heap.size<=w2.heap.size:=Nat.le_refl _
  generalize w2.heap.size=g at *
  have HR:=hid (jRing HE.out.2.1)
  have c0:=HE.out.2.1.c0
  go_wp2_with fail
  refine HR.out.mono ?_
  rintro e w4 ⟨rfl,rfl⟩
  go_wp2
  clear HR
  go_loopw [10,11,26] (fun s10 s11 s26 wr=>∃i Oi,i<=le-1/\s26=.int .i64 ((i:Nat):Int)/\Hid (Jst S p fi le (.map none) wr Oi (ringF f fi i) C 1 0 0 (k+3+(le-1-i))/\Sh.Moves O wm Oi wr/\Sh.Beside wr Oi (some ⟨g,0,none⟩) Sh.noughts)) (fun _ _ i _=>le-(intOf i).toNat)
  case atStart=>exact ⟨0,O,Nat.zero_le _,rfl,hid ⟨by rw [ringF_zero];exact HE.out.2.1.less (by omega),Sh.Moves.refl _ _,HE.out.1⟩⟩
  case round =>
   obtain ⟨i,Oi,hi,rfl,hR⟩:=hrel
   by_cases hlt:i<le-1
   ·have q:decide (((i:Nat):Int)<((le-1:Nat):Int))=true:=by simp;omega
    have HP:=hid (jPlace hR.out.1 i (by omega))
    rw [place0 hlt] at HP
    have HW:=hid (fun nq=>S.vwrite (fi+1+i) 128 (S.less (hR.out.1.grown (below_drewN (Below.refl _ wr) nq)).is (show k+3+(le-1-(i+1))+1<=k+3+(le-1-i) by omega)) (by have:=HH.out.2.2.1;omega) (HH.out.2.2.2 _ (by omega) (by omega)) (beside_below hR.out.2.2 (below_drewN (Below.refl _ wr) nq)) Sh.noughts_sec)
    have HNX:=hid (ringF_next f fi i)
    generalize fi+1+i=pl at *
    go_wp2_with fail
    refine HP.out.mono ?_
    rintro e w5 ⟨rfl,nq,rfl⟩
    go_wp2_with fail
    refine (HW.out nq).mono ?_
    rintro e w6 ⟨O6,rfl,his,hmv⟩
    have hb4:=beside_below (O:=Oi) hR.out.2.2 (below_drewN (Below.refl _ wr) nq)
    have H6:=hid (And.intro ((hR.out.1.grown (below_drewN (Below.refl _ wr) nq)).moved his hmv) (And.intro (hR.out.2.1.trans (moves_below (below_drewN (Below.refl _ wr) nq) hmv)) (hb4.moves hmv)))
    clear his hmv hb4 HW HP
    go_wp2
    go_roundw
    case rel=>exact ⟨i+1,O6,by omega,by go_num,hid ⟨by rw [<- HNX.out];exact H6.out.1,H6.out.2.1,H6.out.2.2⟩⟩
    case measure=>simp [intOf];omega
   ·obtain rfl:i=le-1:=by omega
    clear c0
    have HFL:=hid (S.vflush (S.less hR.out.1.is (show k+2+1<=k+3+(le-1-(le-1)) by omega)))
    go_wp2_with fail
    refine HFL.out.mono ?_
    rintro e w5 ⟨O5,rfl,his,hmv⟩
    have hj5:=hR.out.1.moved his hmv
    have HWH:=hid (jWriteHead hj5 (Nat.le_refl _) (by decide))
    have H5:=hid (hR.out.2.1.trans hmv)
    clear his hmv hj5 HFL
    go_wp2_with fail
    refine HWH.out.mono ?_
    rintro e w6 ⟨O6,rfl,hj6,hmv⟩
    have H6:=hid (And.intro hj6.is (moves_below HE.out.2.2 (H5.out.trans hmv)))
    clear hj6 hmv HWH
    go_wp2
    go_ret
    exact ⟨O6,rfl,H6.out.1,H6.out.2⟩
end
theorem getN_put (x n:Nat):getN (putL x n)=x%2 ^ (8*n):=by
 induction n with
 | zero=>simp [putL,getN,Nat.mod_one]
 | succ n ih =>
  have e:putL x (n+1)=putL x n++[x / 2 ^ (8*n)%256]:=by unfold putL;rw [List.range_succ,List.map_append];rfl
  rw [e,getN_snoc,putL_length,ih,show 8*(n+1)=8*n+8 by omega,Nat.pow_add,Nat.mod_mul]
  rw [Nat.mul_comm (2 ^ (8*n))]
theorem getN_zeros (n:Nat):getN (List.replicate n 0)=0:=by
 induction n with
 | zero=>rfl
 | succ n ih=>rw [List.replicate_succ,getN,ih]
theorem flat_drop:∀(ns:List Nat) (i:Nat),(ns.flatMap fun x=>putL x 4).drop (4*i)=(ns.drop i).flatMap fun x=>putL x 4
 | ns,0=>rfl
 | [],i+1=>by simp
 | x :: ns,i+1=>by
  rw [List.flatMap_cons,show 4*(i+1)=(putL x 4).length+4*i by rw [putL_length];omega,List.drop_append,List.drop_eq_nil_of_le (by omega),List.nil_append,Nat.add_sub_cancel_left,List.drop_succ_cons]
  exact flat_drop ns i
theorem seal_split (mg:List Nat) (sq:Nat) (ns:List Nat):sealL mg sq ns=mg++(putL sq 8++((ns.flatMap fun x=>putL x 4)++(List.replicate (124-(12+4*ns.length)) 0++putL (Nums.sum 0 (sealB mg sq ns)) 4))):=by
 have e:sealB mg sq ns=mg++putL sq 8++(ns.flatMap fun x=>putL x 4)++List.replicate (124-(12+4*ns.length)) 0:=by
  unfold sealB sealTo;rw [List.take_length]
 conv=>lhs;unfold sealL
 conv=>lhs;lhs;rw [e]
 simp only [List.append_assoc]
theorem seal_seq {mg:List Nat} (hm:mg.length=4) (sq:Nat) {ns:List Nat} (hsq:sq<9223372036854775808):unsSeq (sealL mg sq ns)=(sq:Int):=by
 unfold unsSeq cutAt
 rw [seal_split mg sq ns,show (4:Nat)=mg.length+0 by omega,List.drop_append,List.drop_eq_nil_of_le (by omega)]
 rw [show mg.length+0-mg.length=0 by omega,List.nil_append,List.drop_zero,List.take_append,putL_length,Nat.sub_self,List.take_zero,List.append_nil,List.take_of_length_le (by rw [putL_length];omega),getN_put,Nat.mod_eq_of_lt (by omega)]
 unfold wrap64;omega
theorem seal_num {mg:List Nat} (hm:mg.length=4) (sq:Nat) {ns:List Nat} (i:Nat) (hi:i<28) (hs:∀x∈ns,x<4294967296):numAt (sealL mg sq ns) i=ns.getD i 0:=by
 unfold numAt cutAt
 have e1:(mg++putL sq 8).length=12:=by rw [List.length_append,putL_length,hm]
 rw [seal_split mg sq ns,<- List.append_assoc,<- e1,List.drop_append,List.drop_eq_nil_of_le (by omega),List.nil_append,Nat.add_sub_cancel_left,List.drop_append,flat_drop,flat4]
 by_cases h:i<ns.length
 ·rw [List.drop_eq_getElem_cons h,List.flatMap_cons,List.append_assoc,List.take_append,putL_length,Nat.sub_self,List.take_zero,List.append_nil,List.take_of_length_le (by rw [putL_length];omega),getN_put,Nat.mod_eq_of_lt (by have:=hs _ (List.getElem_mem h);omega)]
  simp [List.getD,h]
 ·rw [List.drop_eq_nil_of_le (by omega),List.flatMap_nil,List.nil_append,e1,List.drop_append,List.length_replicate,List.drop_replicate,List.take_append,List.length_replicate]
  rw [List.take_replicate,show min 4 (124-(12+4*ns.length)-(4*i-4*ns.length))=4 by omega,show 4-(124-(12+4*ns.length)-(4*i-4*ns.length))=0 by omega,List.take_zero,List.append_nil,getN_zeros]
  simp [List.getD,List.getElem?_eq_none (show ns.length<=i by omega)]
theorem seqB_nat {sq:Nat} (h1:1<=sq) (h2:sq<=4611686018427387904):seqB (sq:Int)=true:=decide_eq_true (by omega)
theorem okH_seal {sq a:Nat} (h1:1<=sq) (h2:sq<=4611686018427387904) (ha:a<=65535):okH (sealL headM sq [a])=true/\unsSeq (sealL headM sq [a])=(sq:Int)/\numAt (sealL headM sq [a]) 0=a:=by
 have e1:=seal_seq headM_facts.1 sq (ns:=[a]) (by omega)
 have e2:=seal_num headM_facts.1 sq (ns:=[a]) 0 (by omega) (by simp;omega)
 have e3:([a]:List Nat).getD 0 0=a:=rfl
 rw [e3] at e2
 refine ⟨?_,e1,e2⟩
 unfold okH
 rw [e1,e2,seqB_nat h1 h2,show numB ((a:Nat):Int)=true from decide_eq_true (by omega),Int.toNat_natCast,decide_eq_true rfl];rfl
theorem okD_noughts:okD Sh.noughts=false:=by
 have e:unsSeq Sh.noughts=0:=by
  unfold unsSeq cutAt Sh.noughts
  rw [List.drop_replicate,List.take_replicate,getN_zeros];unfold wrap64;omega
 unfold okD descB
 rw [e];rfl
section
variable {S:StoK} {p fi le:Nat} {mv:Value} {w w':World} {O O':Nat->Prop} {f f':Nat->Sh.Bs} {C C':Nat->Prop} {sq a u k k':Nat}
def NoneAt (l:Sh.Bs) (sq:Nat):Prop:=okD l=false\/unsSeq l≠(sq:Int)
theorem jStored_none (h:Jst S p fi le mv w O f C sq a u (k+1)) (hd:NoneAt (f (placeN fi le a 0)) sq):Calls Tryz.prog 155 #[.pointer (some ⟨p,0,none⟩)] w fun e w' =>
  ∃O',e=.returned (.tuple #[.slice none 0 0,.int .i64 0])/\Jst S p fi le mv w' O' f C sq a u k/\Sh.Moves O w O' w':=by
 have HR:=hid (jReadRing h 0 (by omega))
 have hin:=place_in (fi:=fi) a 0 h.lay.1
 have hs:=S.sec (placeN fi le a 0) h.is (by have:=h.lay;omega)
 have HT:=hid (fun W (hb:Below w.heap.size w W)=>S.tabs (h.grown hb).is)
 have HD:=hid (And.intro hd hs.2)
 generalize f (placeN fi le a 0)=l at *
 clear h hin hs hd
 go_enter Tryz.func155,Tryz.ntmps155
 go_wp2_with fail
 refine HR.out.mono ?_
 rintro e w1 ⟨A,cap,O1,rfl,hj,hmv,hby,hno⟩
 have HRD:=hid (readDesc_any A cap l w1 HD.out.2 hby.1 (S.tabs hj.is))
 have H1:=hid (And.intro hj hmv)
 clear hj hmv hby hno HR
 go_wp2_with fail
 refine HRD.out.mono ?_
 rintro e w2 (⟨hok,rfl,hb⟩ | ⟨hok,B,c,rfl,hrd,hB,hb⟩)
 ·have H2:=hid (And.intro (H1.out.1.grown hb) (H1.out.2.trans ⟨(Go.Proofs.YtcnjpmcelihknaaGreatDoor.Kc.only_below hb).mono (fun _ e=>e.elim),fun _ e=>.inl e⟩))
  unfold NoD
  clear hb hok HRD
  go_wp2
  go_ret2
  exact ⟨O1,rfl,H2.out.1,H2.out.2⟩
 ·have hne:unsSeq l≠(sq:Int):=HD.out.1.resolve_left (by rw [hok];exact Bool.noConfusion)
  have q:(unsSeq l != (sq:Int))=true:=by simpa using hne
  have hj2:=H1.out.1.grown hb
  have c3:=hj2.c3
  have H2:=hid (And.intro hj2 (H1.out.2.trans ⟨(Go.Proofs.YtcnjpmcelihknaaGreatDoor.Kc.only_below hb).mono (fun _ e=>e.elim),fun _ e=>.inl e⟩))
  generalize unsSeq l=us at *
  clear hb hok HRD hj2 hrd hB hne
  go_wp2
  go_ret2
  exact ⟨O1,rfl,H2.out.1,H2.out.2⟩
theorem jRedo_none (h:Jst S p fi le mv w O f C sq a 0 (k+1)) (hd:NoneAt (f (placeN fi le a 0)) sq):Calls Tryz.prog 85 #[.pointer (some ⟨p,0,none⟩)] w fun e w' =>
  ∃O',e=.returned (.tuple #[.int .i64 0,.int .i64 0])/\Jst S p fi le mv w' O' f C sq a 0 k/\Sh.Moves O w O' w':=by
 have HR:=hid (fun W (hb:Below w.heap.size w W)=>jRing (h.grown hb))
 have HS:=hid (fun nq=>jStored_none (h.grown (below_drewN (Below.refl _ w) nq)) hd)
 have c5:=h.c5
 have hlay:=h.bd
 have q:decide (0<le-1)=true:=by simp;omega
 clear h hd hlay
 go_enter Tryz.func85,Tryz.ntmps85
 go_wp2
 go_loopw [4] (fun s4 wr=>s4=.int .i64 0/\w=wr) (fun _ _=>0)
 case atStart=>exact ⟨rfl,rfl⟩
 case round =>
  obtain ⟨rfl,rfl⟩:=hrel
  go_wp2
  go_quiet ((go_at_call 79;exact Calls.quiet_of_same ((HR.out _ (below_drewN (Below.refl _ _) _)).mono fun _ _ h=>⟨h.1,h.2.symm⟩)))
  have HSQ:=hid (HS.out nq)
  clear HS HR
  go_wp2_with fail
  refine HSQ.out.mono ?_
  rintro e w1 ⟨O1,rfl,hj,hmv⟩
  have H1:=hid (And.intro hj (moves_below (below_drewN (Below.refl _ w) nq) hmv))
  clear hj hmv
  go_wp2
  go_ret2
  exact ⟨O1,rfl,H1.out.1,H1.out.2⟩
end
section
variable {S:StoK} {w w':World} {O O':Nat->Prop} {f f':Nat->Sh.Bs} {C C':Nat->Prop} {k k':Nat}
def OpenedJ (S:StoK) (w:World) (O:Nat->Prop) (fi le:Nat) (n:Nat) (s:Js) (k:Nat) (e:Ending) (w':World):Prop :=
 ∃(G:Jg) (O':Nat->Prop),e=.returned (.tuple #[.pointer (some ⟨G.p,0,none⟩),.int .i64 (n:Int),.int .i64 0])/\G.fi=fi/\G.le=le/\Jou S G w' O' s k/\Sh.Moves O w O' w'
theorem made_j {p0:Nat} {w1 w2:World} {O1:Nat->Prop} {fi le sq a:Nat} (h:S.Is w1 O1 f C k) (h28:28<=le) (hn:fi+le<=S.n) (hC:∀b,fi<=b->b<fi+le->C b) (ha:a<le-1) (hp:p0=w1.heap.size)
  (hw:w2=(w1.alloc (.map #[] 0)).alloc (.cells #[.pointer (some ⟨S.c,0,none⟩),.int .i64 (fi:Int),.int .i64 (le:Int),.int .i64 (sq:Int),.int .i64 (a:Int),.int .i64 0,.map (some p0)] 144)) :
  Jst S (p0+1) fi le (.map (some p0)) w2 O1 f C sq a 0 k/\RMap w2 p0 []/\Below w1.heap.size w1 w2:=by
 subst hp hw
 have hb:Below w1.heap.size w1 ((w1.alloc (.map #[] 0)).alloc (.cells #[.pointer (some ⟨S.c,0,none⟩),.int .i64 (fi:Int),.int .i64 (le:Int),.int .i64 (sq:Int),.int .i64 (a:Int),.int .i64 0,.map (some w1.heap.size)] 144)):=((Below.refl _ _).alloc (Nat.le_refl _) _).alloc (by simp) _
 refine ⟨⟨?_,S.grown h hb,fun e=>?_,⟨h28,hn⟩,hC,ha⟩,?_,hb⟩
 ·have:=heap_alloc_new (w1.alloc (.map #[] 0)) (.cells #[.pointer (some ⟨S.c,0,none⟩),.int .i64 (fi:Int),.int .i64 (le:Int),.int .i64 (sq:Int),.int .i64 (a:Int),.int .i64 0,.map (some w1.heap.size)] 144)
  rw [heap_alloc_size] at this
  exact this
 ·have:=S.lt h _ e;omega
 ·exact (RMap.made w1).same (Below.heap_alloc _ _ _ (RMap.made w1).lt)
theorem moves_new {w3 w4 w6:World} {O2 O6:Nat->Prop} {m:Nat} (h1:Sh.Moves O w O2 w3) (hb:Below m w3 w4) (hm3:w3.heap.size=m) (hm:w.heap.size<=m) (h2:MovesJ (m+1) O2 w4 O6 w6):Sh.Moves O w (fun b=>O6 b\/b=m+1\/b=m) w6:=by
 have hb2:Below w3.heap.size w3 w4:=by rw [hm3];exact hb
 have a:Sh.Moves O w (fun b=>O2 b\/b=m+1\/b=m) w4:=⟨(h1.trans (F2:=O2) ⟨(Go.Proofs.YtcnjpmcelihknaaGreatDoor.Kc.only_below hb2).mono (fun _ e=>e.elim),fun _ e=>.inl e⟩).1,fun b e=>by
  rcases e with e | e | e
  ·exact h1.2 b e
  ·right;omega
  ·right;omega⟩
 have c:Sh.Moves (fun b=>O2 b\/b=m+1\/b=m) w4 (fun b=>O6 b\/b=m+1\/b=m) w6:=⟨h2.1.mono fun b e=>e.elim .inl (fun e=>.inr (.inl e)),fun b e=>by
  rcases e with e | e | e
  ·exact (h2.2 b (.inl e)).imp (fun e=>e.elim .inl (fun e=>.inr (.inl e))) id
  ·exact .inl (.inr (.inl e))
  ·exact .inl (.inr (.inr e))⟩
 exact a.trans c
set_option maxRecDepth 20000 in
theorem jOpen_fresh (fi le sq a:Nat) (h:S.Is w O f C (k+1110)) (h28:28<=le) (hn:fi+le<=S.n) (hC:∀b,fi<=b->b<fi+le->C b) (hf:f fi=sealL headM sq [a]) (h1:1<=sq) (h2:sq+1+k<=4611686018427387904) (ha:a<le-1) (hd:NoneAt (f (placeN fi le a 0)) sq) :
  Calls Tryz.prog 30 #[.pointer (some ⟨S.c,0,none⟩),.int .i64 (fi:Int),.int .i64 (le:Int)] w (OpenedJ S w O fi le 0 ⟨sq+1,a,0,fset f fi (sealL headM (sq+1) [a]),[]⟩ k):=by
 have hle:le<=65535:=by have:=S.nmax;omega
 have hfi:fi<=65535:=by have:=S.nmax;omega
 have HF:=hid (jFits h (fi:Int) (le:Int) (by omega))
 rw [show fitsB S.n fi le=true from decide_eq_true (by omega)] at HF
 have hs:=okH_seal h1 (by omega) (show a<=65535 by omega)
 have hsec:=sealL_sec headM_facts.1 headM_facts.2 sq (ns:=[a]) (by simp)
 have HTL:Hid (toldH (sealL headM sq [a])=.tuple #[.int .i64 (sq:Int),.int .i64 (a:Int),.int .i64 0]):=hid (by unfold toldH;rw [if_pos hs.1,hs.2.1,hs.2.2])
 have HHD:=hid (fun A c w hr hT=>readHead_any A c (sealL headM sq [a]) w hsec.2 hr hT)
 rw [HTL.out] at HHD
 have HH:=hid (And.intro h (And.intro h28 (And.intro hn (And.intro hC (And.intro hf (And.intro ha (And.intro hd (And.intro h1 h2))))))))
 have hw2:IntKind.i64.wrap ((le:Int)-1)=(le:Int)-1:=by rw [IntKind.wrap_i64];omega
 have hw3:IntKind.i64.wrap ((sq:Int)+1)=((sq+1:Nat):Int):=by rw [IntKind.wrap_i64];omega
 have q1:decide ((a:Int)≥(le:Int)-1)=false:=by simp;omega
 clear h hC hn hf hd ha hs hsec
 have hmm:=@run_makeMap Tryz.prog
 unfold OpenedJ
 go_enter Tryz.func30,Tryz.ntmps30
 go_wp2_with fail
 refine HF.out.mono ?_
 rintro e w1 ⟨rfl,hb⟩
 have HV:=hid (S.volume (S.grown HH.out.1 hb))
 have HR:=hid (S.vread fi (S.less (S.grown HH.out.1 hb) (show k+1103+1<=k+1110 by omega)) (by have:=HH.out.2.1;have:=HH.out.2.2.1;omega) (HH.out.2.2.2.1 fi (Nat.le_refl _) (by have:=HH.out.2.1;omega)))
 have HB:=hid hb
 clear hb HF
 go_wp2_with fail
 refine HV.out.mono ?_
 rintro e w0 ⟨rfl,rfl⟩
 go_wp2_with fail
 refine HR.out.mono ?_
 rintro e w2 ⟨A,cap,O2,rfl,his,hmv,hby,hno⟩
 rw [HH.out.2.2.2.2.1] at hby
 have HHQ:=hid (HHD.out A cap w2 hby.1 (S.tabs his))
 have H2:=hid (And.intro his (moves_below HB.out hmv))
 clear his hmv hby hno HR HHD HV
 go_wp2_with fail
 refine HHQ.out.mono ?_
 rintro e w3 ⟨rfl,hb⟩
 have H3:=hid (And.intro (S.grown H2.out.1 hb) (H2.out.2.trans ⟨(Go.Proofs.YtcnjpmcelihknaaGreatDoor.Kc.only_below hb).mono (fun _ e=>e.elim),fun _ e=>.inl e⟩))
 clear hb HHQ
 go_wp2_with fail
 obtain ⟨hj,hmap,hbm⟩:=made_j (sq:=sq) (a:=a) H3.out.1 HH.out.2.1 HH.out.2.2.1 HH.out.2.2.2.1 HH.out.2.2.2.2.2.1 rfl rfl
 have HP:=hid (fun b (h:O2 b)=>S.lt H3.out.1 b h)
 generalize (w3.alloc (.map #[] 0)).alloc (.cells #[.pointer (some ⟨S.c,0,none⟩),.int .i64 (fi:Int),.int .i64 (le:Int),.int .i64 (sq:Int),.int .i64 (a:Int),.int .i64 0,.map (some w3.heap.size)] 144)=w4 at *
 have HRE:=hid (jRedo_none (hj.less (show k+1102+1<=k+1103 by omega)) HH.out.2.2.2.2.2.2.1)
 have hms:w3.heap.size<w4.heap.size:=hmap.lt
 have hmO:¬O2 w3.heap.size:=fun e=>Nat.lt_irrefl _ (HP.out _ e)
 have h3s:w.heap.size<=w3.heap.size:=H3.out.2.1.size
 have hbm:Below w3.heap.size w3 w4:=hbm
 have H4:=hid (And.intro hmap (And.intro hbm (And.intro hmO (And.intro h3s (And.intro hj.plt (Nat.le_refl w3.heap.size))))))
 clear hj hmap hbm hms hmO h3s
 generalize hm3:w3.heap.size=m at *
 have HM3:=hid hm3
 clear hm3
 go_wp2_with fail
 refine HRE.out.mono ?_
 rintro e w5 ⟨O5,rfl,hj,hmv⟩
 have hmap5:=H4.out.1.same (hmv.1.block _ H4.out.1.lt H4.out.2.2.1)
 have hmO5:¬O5 m:=fun e=>(hmv.2 _ e).elim H4.out.2.2.1 (fun q=>absurd H4.out.1.lt (by omega))
 have c3:=hj.c3
 have f3:=hj.free 3
 obtain ⟨hj2,ho2⟩:=hj.set3 (sq+1)
 have HCP:=hid (jCheckpoint hj2 (by omega) (by have:=HH.out.2.2.2.2.2.2.2.2;omega))
 have hmap6:=hmap5.same (ho2.block _ hmap5.lt (by omega))
 have H5:=hid (And.intro hmap6 (And.intro hmO5 (And.intro hmv ho2)))
 clear hj hmv hmap5 hmO5 hj2 ho2 hmap6 HRE
 go_wp2_with fail
 refine HCP.out.mono ?_
 rintro e w6 ⟨O6,rfl,hj,hmv⟩
 have H6:=hid (And.intro hj hmv)
 clear hj hmv HCP c3 f3
 go_wp2
 go_ret3
 have hmlt:=H5.out.1.lt
 have hmO6:¬O6 m:=fun e=>(H6.out.2.2 m (.inl e)).elim (fun q=>q.elim H5.out.2.1 (by omega)) (fun q=>by omega)
 exact ⟨⟨m+1,m,fi,le⟩,_,rfl,rfl,rfl,⟨⟨O6,C,H6.out.1,hmO6,rfl⟩,H5.out.1.same (H6.out.2.1.block _ hmlt (fun q=>q.elim H5.out.2.1 (by omega))),List.Pairwise.nil,by simp,fun z hz=>absurd hz (by simp),Nat.le_add_left 1 sq,HH.out.2.2.2.2.2.2.2.2,Nat.zero_le _⟩,
  moves_new H3.out.2 H4.out.2.1 HM3.out H4.out.2.2.2.1 (((MovesJ.of H5.out.2.2.1).trans (MovesJ.own H5.out.2.2.2)).trans H6.out.2)⟩
end
end Go.Proofs.YtcnjpmcelihknaaGreatDoor.Kj
