/-
  What the statement's proof rests on, part 47.
  Conditions: each theorem's own.
-/
import Derived.Test.YtcnjpmcelihknaaGreatDoorV44
import Derived.Test.YtcnjpmcelihknaaGreatDoorV46
import Derived.Test.YtcnjpmcelihknaaGreatDoorV40
import Derived.Test.YtcnjpmcelihknaaGreatDoorV21
open Go.Lib (hid)
namespace Go.Proofs.YtcnjpmcelihknaaGreatDoor.Kj
open Go.RowKit Go.Maps
theorem rises_len:∀(R:List (Nat × Sh.Bs)) (a c:Nat),Rises R->(∀z∈R,a<=z.1/\z.1<c)->R.length<=c-a
 | [],_,_,_,_=>Nat.zero_le _
 | q :: r,a,c,h,hb=>by
  obtain ⟨h1,h2⟩:=List.pairwise_cons.1 h
  have hq:=hb q (List.mem_cons_self ..)
  have:=rises_len r (q.1+1) c h2 fun z hz=>⟨h1 z hz,(hb z (List.mem_cons_of_mem _ hz)).2⟩
  rw [List.length_cons];omega
def setT (T:Nat->Bool) (i:Nat) (on:Bool) (j:Nat):Bool:=if j=i then on else T j
section
variable {S:StoK} {G:Jg} {w w':World} {O O':Nat->Prop} {s:Js} {k k' m fi n:Nat} {T:Nat->Bool}
theorem tk_put {i:Nat} (hj:Jou S G w O s k) (hb:mine S G (fi+i / 1024)) (on:Bool) (j:Nat):tkA (s.put (fi+i / 1024) (withL (s.look (fi+i / 1024)) (i%1024) on)).look fi j=setT (tkA s.look fi) i on j:=by
 have hl:(s.look (fi+i / 1024)).length=128:=(hj.sec _ hb.1).1
 have e:(s.put (fi+i / 1024) (withL (s.look (fi+i / 1024)) (i%1024) on)).look=fset s.look (fi+i / 1024) (withL (s.look (fi+i / 1024)) (i%1024) on):=look_put (R:=s.R) hj.rises _ _
 unfold tkA setT
 rw [e]
 by_cases h:j / 1024=i / 1024
 ·rw [show fi+j / 1024=fi+i / 1024 by omega,fset_same,withOn_bit _ _ _ _ (by omega)]
  by_cases h2:j=i
  ·rw [if_pos h2,if_pos (by omega)]
  ·rw [if_neg h2,if_neg (by omega)]
   show _=bitB (s.look (fi+j / 1024)) (j%1024)
   rw [h]
 ·rw [fset_other _ _ (by omega),if_neg (fun e=>h (by rw [e]))]
structure Alc (S:StoK) (G:Jg) (w:World) (m fi n:Nat) (O:Nat->Prop) (T:Nat->Bool) (k:Nat):Prop where
 ex:∃s,AlR S G w m fi n/\¬O m/\Jou S G w O s k/\(∀j,tkA s.look fi j=T j)/\∀z∈s.R,fi<=z.1/\z.1<fi+4
theorem Alc.grown (h:Alc S G w m fi n O T k) (hb:Below w.heap.size w w'):Alc S G w' m fi n O T k:=by
 obtain ⟨s,h1,h2,h3,h4,h5⟩:=h.ex
 exact ⟨s,h1.grown hb,h2,h3.grown hb,h4,h5⟩
theorem Alc.less (h:Alc S G w m fi n O T k) (hk:k'<=k):Alc S G w m fi n O T k':=by
 obtain ⟨s,h1,h2,h3,h4,h5⟩:=h.ex
 exact ⟨s,h1,h2,h3.less hk,h4,h5⟩
theorem Alc.bel (h:Alc S G w m fi n O T k):Below S.B S.W w:=by
 obtain ⟨s,h1,h2,h3,h4,h5⟩:=h.ex
 exact h3.bel
theorem Alc.only {F:Nat->Prop} (h:Alc S G w m fi n O T k) (ho:Sh.Only F w w') (hF:∀b,F b->¬O b/\b≠m):Alc S G w' m fi n O T k:=by
 obtain ⟨s,h1,h2,h3,h4,h5⟩:=h.ex
 exact ⟨s,⟨h1.toAlM.same (ho.block _ h1.lt fun e=>(hF _ e).2 rfl),h1.own⟩,h2,h3.only ho fun b hb=>(hF b hb).1,h4,h5⟩
theorem few_keys (hj:Jou S G w O s k) (h:∀z∈s.R,fi<=z.1/\z.1<fi+4):s.R.length<24:=by
 have:=rises_len s.R fi (fi+4) hj.rises h
 omega
theorem keys_put {R:List (Nat × Sh.Bs)} {b:Nat} {x:Sh.Bs} (h:∀z∈R,fi<=z.1/\z.1<fi+4) (hb:fi<=b/\b<fi+4):∀z∈rput R b x,fi<=z.1/\z.1<fi+4:=fun z hz=>(rput_mem.1 hz).elim (fun e=>by rw [e];exact hb) (fun e=>h z e.1)
theorem Alc.take (h:Alc S G w m fi n O T (k+10)):Calls Tryz.prog 47 #[.pointer (some ⟨m,0,none⟩)] w fun e w'=>∃O',Sh.Moves O w O' w' /\
  ((∃i,i<n/\T i=false/\(∀j,j<i->T j=true)/\e=.returned (.tuple #[.int .i64 (i:Int),.int .i64 0])/\Alc S G w' m fi n O' (setT T i true) k) \/
   ((∀j,j<n->T j=true)/\e=.returned (.tuple #[.int .i64 0,.int .i64 27])/\Alc S G w' m fi n O' T k)):=by
 obtain ⟨s,h1,h2,h3,h4,h5⟩:=h.ex
 refine (aTake h1 h2 h3 fun i _=>.inr (few_keys h3 h5)).mono ?_
 rintro e w' ⟨O',hmv,⟨i,hi,ht,hl,rfl,hj⟩ | ⟨ha,rfl,hj⟩⟩
 ·obtain ⟨hr,hn⟩:=h1.moves hmv h2
  refine ⟨O',hmv,.inl ⟨i,hi,by rw [<- h4];exact ht,fun j hj=>by rw [<- h4];exact hl j hj,rfl,⟨_,hr,hn,hj,fun j=>?_,keys_put h5 (by have:=h1.cnt;omega)⟩⟩⟩
  rw [tk_put h3 (own_div h1 hi)]
  unfold setT
  split
  ·rfl
  ·exact h4 j
 ·obtain ⟨hr,hn⟩:=h1.moves hmv h2
  exact ⟨O',hmv,.inr ⟨fun j hj=>by rw [<- h4];exact ha j hj,rfl,⟨s,hr,hn,hj,h4,h5⟩⟩⟩
theorem Alc.give (h:Alc S G w m fi n O T (k+2)) (i:Nat) (hi:i<n):Calls Tryz.prog 48 #[.pointer (some ⟨m,0,none⟩),.int .i64 (i:Int)] w fun e w'=>∃O',Sh.Moves O w O' w'/\e=.returned (.int .i64 (if T i=true then 0 else 9))/\Alc S G w' m fi n O' (setT T i false) k:=by
 obtain ⟨s,h1,h2,h3,h4,h5⟩:=h.ex
 cases ht:T i with
 | true =>
  refine (aGive h1 h2 h3 i hi (by rw [h4];exact ht) (.inr (few_keys h3 h5))).mono ?_
  rintro e w' ⟨O',rfl,hj,hmv⟩
  obtain ⟨hr,hn⟩:=h1.moves hmv h2
  refine ⟨O',hmv,by simp,⟨_,hr,hn,hj,fun j=>?_,keys_put h5 (by have:=h1.cnt;omega)⟩⟩
  rw [tk_put h3 (own_div h1 hi)]
  unfold setT
  split
  ·rfl
  ·exact h4 j
 | false =>
  refine (aGive_free h1 h2 h3 i hi (by rw [h4];exact ht)).mono ?_
  rintro e w' ⟨O',rfl,hj,hmv⟩
  obtain ⟨hr,hn⟩:=h1.moves hmv h2
  refine ⟨O',hmv,by simp,⟨s,hr,hn,hj,fun j=>?_,h5⟩⟩
  rw [h4]
  unfold setT
  split
  ·rename_i e;rw [e];exact ht
  ·rfl
def cntT (T:Nat->Bool):Nat->Nat
 | 0=>0
 | j+1=>cntT T j+if T j=true then 1 else 0
theorem cntA_T {f:Nat->Sh.Bs} (h:∀j,tkA f fi j=T j):∀j,cntA f fi j=cntT T j
 | 0=>rfl
 | j+1=>by unfold cntA cntT;rw [cntA_T h j,h]
theorem Alc.free (h:Alc S G w m fi n O T (k+10)):Calls Tryz.prog 54 #[.pointer (some ⟨m,0,none⟩)] w fun e w'=>∃O',Sh.Moves O w O' w'/\e=.returned (.tuple #[.int .i64 ((n-cntT T n:Nat):Int),.int .i64 0])/\Alc S G w' m fi n O' T k:=by
 obtain ⟨s,h1,h2,h3,h4,h5⟩:=h.ex
 refine (aFree h1 h2 h3).mono ?_
 rintro e w' ⟨O',rfl,hj,hmv⟩
 obtain ⟨hr,hn⟩:=h1.moves hmv h2
 exact ⟨O',hmv,by rw [cntA_T h4],⟨s,hr,hn,hj,h4,h5⟩⟩
theorem Alc.count (h:Alc S G w m fi n O T k):Calls Tryz.prog 56 #[.pointer (some ⟨m,0,none⟩)] w fun e w'=>e=.returned (.int .i64 (n:Int))/\w=w':=by
 obtain ⟨s,h1,_⟩:=h.ex
 exact aCount h1.toAlM
end
open Go.Proofs.YtcnjpmcelihknaaGreatDoor.U (All10)
section
variable {S:StoK} {G:Jg} {w w':World} {O O':Nat->Prop} {s:Js} {k k' m fi n:Nat} {T:Nat->Bool}
theorem Alc.take_at (h:Alc S G w m fi n O T (k+10)) (i:Nat) (hi:i<n) (ht:T i=false) (hl:∀j,j<i->T j=true):Calls Tryz.prog 47 #[.pointer (some ⟨m,0,none⟩)] w fun e w'=>∃O',Sh.Moves O w O' w'/\e=.returned (.tuple #[.int .i64 (i:Int),.int .i64 0])/\Alc S G w' m fi n O' (setT T i true) k:=by
 refine h.take.mono ?_
 rintro e w' ⟨O',hmv,⟨i2,hi2,ht2,hl2,rfl,ha⟩ | ⟨ha,_⟩⟩
 ·obtain rfl:i2=i:=by
   rcases Nat.lt_trichotomy i2 i with h | h | h
   ·rw [hl i2 h] at ht2;cases ht2
   ·exact h
   ·rw [hl2 i h] at ht;cases ht
  exact ⟨O',hmv,rfl,ha⟩
 ·rw [ha i hi] at ht;cases ht
theorem Alc.take_full (h:Alc S G w m fi n O T (k+10)) (ht:∀j,j<n->T j=true):Calls Tryz.prog 47 #[.pointer (some ⟨m,0,none⟩)] w fun e w'=>∃O',Sh.Moves O w O' w'/\e=.returned (.tuple #[.int .i64 0,.int .i64 27])/\Alc S G w' m fi n O' T k:=by
 refine h.take.mono ?_
 rintro e w' ⟨O',hmv,⟨i2,hi2,ht2,hl2,rfl,ha⟩ | ⟨_,rfl,ha⟩⟩
 ·rw [ht i2 hi2] at ht2;cases ht2
 ·exact ⟨O',hmv,rfl,ha⟩
theorem bit_noughts (i:Nat):bitB Sh.noughts i=false:=by
 unfold bitB Sh.noughts
 have e:(List.replicate 128 0).getD (i / 8) 0=0:=by
  rw [List.getD_eq_getElem?_getD,List.getElem?_replicate]
  split<;>rfl
 rw [e,Nat.zero_div];rfl
theorem begun_free {St:Nat} (hs:s.R=[]) (hf:∀j,j<3*St-28->s.f j=Sh.noughts) (fi:Nat) {j:Nat} (hj:fi+j / 1024<3*St-28):tkA s.look fi j=false:=by
 unfold tkA Js.look
 rw [hs,over_nil,hf _ hj]
 exact bit_noughts _
theorem mine_at {St b:Nat} (hn:S.n=3*St) (hfi:G.fi=3*St-28) (hle:G.le=28):mine S G b↔b<3*St-28:=by
 unfold mine
 rw [hn,hfi,hle];omega
theorem DiskQ.grown {q:Nat} (h:DiskQ S G w q O s k) (hb:Below w.heap.size w w'):DiskQ S G w' q O s k:=by
 obtain ⟨p,hr⟩:=h.row
 exact ⟨⟨p,(hb.block _ (lt_of_block hr)).trans hr⟩,h.jou.grown hb,h.nq⟩
theorem DiskQ.c2 {q:Nat} (h:DiskQ S G w q O s k):w.cell? ⟨q,2,none⟩=some (.pointer (some ⟨G.p,0,none⟩)):=by
 obtain ⟨p,hr⟩:=h.row
 exact cell_of_row _ _ 2 _ _ _ hr
theorem open_alc (hs:s.R=[]) (hj:Jou S G w O s (k+10)) (fi n:Nat) (hn:1<=n/\n<=4096) (hown:∀i,i<(n-1) / 1024+1->mine S G (fi+i)) :
  Calls Tryz.prog 46 #[.pointer (some ⟨G.p,0,none⟩),.int .i64 (fi:Int),.int .i64 (n:Int)] w fun e w'=>∃(m:Nat) (O':Nat->Prop),e=.returned (.tuple #[.pointer (some ⟨m,0,none⟩),.int .i64 0])/\Alc S G w' m fi n O' (tkA s.look fi) k/\Sh.Moves O w O' w'/\w.heap.size<=m:=by
 refine (aOpen hj fi n hn hown).mono ?_
 rintro e w' ⟨m,O',rfl,hr,hnm,hj',hmv,hm⟩
 exact ⟨m,O',rfl,⟨s,hr,hnm,hj',fun _=>rfl,fun z hz=>by rw [hs] at hz;exact absurd hz (by simp)⟩,hmv,hm⟩
end
set_option maxRecDepth 20000 in
set_option maxHeartbeats 4000000 in
theorem lives12 {w:World} (hA:All10 w):Calls Tryz.prog 45 #[] w fun e w'=>e=.returned (.bool true)/\Below w.heap.size w w':=by
 have HBG:=hid (begin12 hA 14 (by decide) (by decide))
 have HB2:=hid (fun w=>aBlocks 1025 w (by decide) (by decide))
 clear hA
 unfold BegunD at HBG
 go_enter Tryz.func45,Tryz.ntmps45
 go_wp2_with fail
 refine HBG.out.mono ?_
 rintro e w1 ⟨S,G,q,O,s,rfl,hd,hn,hfi,hle,hSB,hSW,hsR,hsf,hwq,hb⟩
 have c2:=hd.c2
 have HS:=hid (And.intro hSB (And.intro hSW hb))
 have hown:∀i,i<(3-1) / 1024+1->mine S G (2+i):=fun i hi=>(mine_at hn hfi hle).2 (by omega)
 have HO:=hid (open_alc (k:=370000) hsR (hd.jou.less (by decide)) 2 3 (by decide) hown)
 have HT:Hid (∀j,j<3->tkA s.look 2 j=false):=hid fun j hj=>begun_free hsR hsf 2 (by omega)
 clear hd hn hfi hle hSB hSW hsR hsf hwq hb hown HBG
 generalize tkA s.look 2=T at *
 go_wp2_with fail
 refine HO.out.mono ?_
 rintro e w2 ⟨m,O2,rfl,ha,_,_⟩
 have HK:=hid (ha.take_at (k:=369990) 0 (by decide) (HT.out 0 (by decide)) (fun j hj=>absurd hj (by omega)))
 clear ha HO
 go_wp2_with fail
 refine HK.out.mono ?_
 rintro e w3 ⟨O3,_,rfl,ha⟩
 have HK2:=hid (ha.take_at (k:=369980) 1 (by decide) (by simp [setT,HT.out]) (by intro j hj;(obtain rfl:j=0:=(by omega));simp [setT]))
 clear ha HK
 go_wp2_with fail
 refine HK2.out.mono ?_
 rintro e w4 ⟨O4,_,rfl,ha⟩
 have HG:=hid (ha.give (k:=369978) 0 (by decide))
 rw [if_pos (by simp [setT])] at HG
 clear ha HK2
 go_wp2_with fail
 refine HG.out.mono ?_
 rintro e w5 ⟨O5,_,rfl,ha⟩
 have HK3:=hid (ha.take_at (k:=369968) 0 (by decide) (by simp [setT]) (fun j hj=>absurd hj (by omega)))
 clear ha HG
 go_wp2_with fail
 refine HK3.out.mono ?_
 rintro e w6 ⟨O6,_,rfl,ha⟩
 have HK4:=hid (ha.take_at (k:=369958) 2 (by decide) (by simp [setT,HT.out]) (by intro j hj;(obtain rfl | rfl:j=0\/j=1:=(by omega))<;>simp [setT]))
 clear ha HK3
 go_wp2_with fail
 refine HK4.out.mono ?_
 rintro e w7 ⟨O7,_,rfl,ha⟩
 have HK5:=hid (ha.take_full (k:=369948) (by intro j hj;(obtain rfl | rfl | rfl:j=0\/j=1\/j=2:=(by omega))<;>simp [setT]))
 clear ha HK4
 go_wp2_with fail
 refine HK5.out.mono ?_
 rintro e w8 ⟨O8,_,rfl,ha⟩
 have HF:=hid (ha.free (k:=369938))
 rw [show (3-cntT (setT (setT (setT (setT (setT T 0 true) 1 true) 0 false) 0 true) 2 true) 3:Nat)=0 by simp [cntT,setT]] at HF
 clear ha HK5
 go_wp2_with fail
 refine HF.out.mono ?_
 rintro e w9 ⟨O9,_,rfl,ha⟩
 have HC:=hid ha.count
 have hbel:=ha.bel
 rw [HS.out.1,HS.out.2.1] at hbel
 have HL:=hid hbel
 clear ha HF hbel
 go_wp2_with fail
 refine HC.out.mono ?_
 rintro e w10 ⟨rfl,rfl⟩
 go_wp2_with fail
 refine (HB2.out _).mono ?_
 rintro e w10 ⟨rfl,rfl⟩
 go_wp2
 go_ret
 exact ⟨rfl,HL.out⟩
theorem refBlocks (n:Int) (w:World) (hn:n<=1000000):Calls Tryz.prog 53 #[.int .i64 n] w fun e w'=>∃k:Nat,e=.returned (.int .i64 (k:Int))/\w=w'/\n<=1024*(k:Int)/\(k=0\/1024*((k:Int)-1)<n):=by
 go_enter Tryz.func53,Tryz.ntmps53
 go_wp2
 go_loopw [3,4] (fun s3 s4 wr=>∃k:Nat,s3=.int .i64 ((k:Nat):Int)/\s4=.int .i64 ((1024*k:Nat):Int)/\k<=1000/\w=wr/\(k=0\/1024*((k:Int)-1)<n)) (fun _ s _=>(n-intOf s).toNat)
 case atStart=>exact ⟨0,rfl,rfl,by omega,rfl,.inl rfl⟩
 case round =>
  obtain ⟨k,rfl,rfl,hk,rfl,hl⟩:=hrel
  by_cases hlt:((1024*k:Nat):Int)<n
  ·have q:decide (((1024*k:Nat):Int)<n)=true:=by simpa using hlt
   have hb:1024*k<=1000000:=by omega
   have HE:Hid (1024*k+1024=1024*(k+1)):=hid (by omega)
   generalize h1:1024*k=kk at *
   go_wp2
   go_roundw
   case rel=>exact ⟨k+1,by go_num,by rw [<- HE.out];go_num,by omega,trivial,.inr (by rw [show ((k+1:Nat):Int)-1=(k:Int) from by omega];omega)⟩
   case measure=>simp [intOf];omega
  ·have q:decide (((1024*k:Nat):Int)<n)=false:=by simpa using hlt
   have HR:Hid (n<=1024*(k:Int)):=hid (by omega)
   go_wp2
   go_ret
   exact ⟨k,rfl,rfl,HR.out,hl⟩
def modN (a:Int) (n:Nat):Nat:=(a%(n:Int)).toNat
theorem modN_lt (a:Int) {n:Nat} (hn:0<n):modN a n<n:=by
 unfold modN
 have h0:0<=a%(n:Int):=Int.emod_nonneg _ (by omega)
 have h1:a%(n:Int)<n:=Int.emod_lt_of_pos _ (by omega)
 omega
theorem mod12_any (a:Int) (n:Nat) (hn:0<n) (hn2:n<=1000000) (w:World):Calls Tryz.prog 43 #[.int .i64 a,.int .i64 n] w fun e w'=>e=.returned (.int .i64 ((modN a n:Nat):Int))/\w=w':=by
 unfold modN
 have hlt:(a.tmod n).natAbs<n:=by
  rw [Int.natAbs_tmod]
  exact Nat.mod_lt _ hn
 have hem:((a%n).toNat:Int)=if a.tmod n<0 then a.tmod n+n else a.tmod n:=by
  have h0:0<=a%(n:Int):=Int.emod_nonneg _ (by omega)
  rw [Int.toNat_of_nonneg h0,Int.tmod_eq_emod]
  have h1:a%(n:Int)<n:=Int.emod_lt_of_pos _ (by omega)
  split<;>omega
 rw [hem]
 have hn0:((n:Int) == 0)=false:=by simp;omega
 have hn1:((n:Int) == -1)=false:=by simp
 by_cases h:a.tmod n<0
 ·rw [if_pos h]
  have h1:decide (a.tmod n<0)=true:=by simpa using h
  have h2:wrap64 (a.tmod n+n)=a.tmod n+n:=by
   generalize a.tmod n=t at *
   exact IntWalk.wrap64_in _ ⟨by omega,by omega⟩
  go_enter Tryz.func43,Tryz.ntmps43
  go_wp2
  go_ret
  exact ⟨by rw [<- h2];rfl,rfl⟩
 ·rw [if_neg h]
  have h1:decide (a.tmod n<0)=false:=by simpa using h
  go_enter Tryz.func43,Tryz.ntmps43
  go_wp2
  go_ret
  exact ⟨rfl,rfl⟩
section
variable {S:StoK} {G:Jg} {w:World} {O:Nat->Prop} {k m fi n:Nat} {T:Nat->Bool}
theorem Alc.lts (h:Alc S G w m fi n O T k):∀b,O b->b<w.heap.size:=by obtain ⟨s,_,_,h3,_⟩:=h.ex;exact h3.lt
theorem Alc.mlt (h:Alc S G w m fi n O T k):m<w.heap.size:=by obtain ⟨s,h1,_⟩:=h.ex;exact h1.lt
end
theorem info_bool1:(Tryz.prog.info? 4).map (fun i=>(i.zero,i.size,i.bytes))=some (some (.bool false),1,1):=by kernel_rfl
structure Bl (w:World) (g k:Nat) (T:Nat->Bool):Prop where
 lt:g<w.heap.size
 at_:∀j,j<k->w.cell? ⟨g,j,none⟩=some (.bool (T j))
 free:∀j,j<k->w.frozen? ⟨g,j,none⟩=false
theorem own_bools {w:World} {g base n:Nat} (h:w.ownsRow base 4 1 (.slice (some ⟨g,0,none⟩) n n) n (madeCells (Value.bool false).cells (n*1)).toList):Bl w g n (fun _=>false):=by
 have e0:(madeCells (Value.bool false).cells (n*1)).toList=List.replicate (n*1) (.bool false):=toList_madeCells_one _ _
 rw [e0] at h
 obtain ⟨h1,h2⟩:=h
 rcases h2 with ⟨e,_⟩ | ⟨g',cap,cur,e,_,hh,h3,h4,h5,h6⟩
 ·cases e
 ·injection e with e1 e2 e3
  injection e1 with e1
  injection e1 with e1
  subst e1
  refine ⟨(Array.getElem?_eq_some_iff.1 hh).1,fun j hj=>?_,fun j _=>frozen_of_row _ _ j _ _ hh⟩
  rw [cell_of_row _ _ j _ _ _ hh,<- Array.getElem?_toList,<- List.getElem?_take_of_lt (show j<n*1 by omega),h6,List.getElem?_replicate,if_pos (by omega)]
theorem new_bools (w:World) (n:Nat) (hn:n<=10000):∃w',(Instr.makeSlice 79 (.int .i64 n) (.int .i64 n)).run Tryz.prog w=.ok (.slice (some ⟨w.heap.size,0,none⟩) n n) w'/\Below w.heap.size w w'/\Bl w' w.heap.size n (fun _=>false):=by
 obtain ⟨i1,ki,kz0,kz1,kz2⟩:=info_parts info_bool1
 obtain ⟨w',hrun,r1,r2⟩:=run_make_full (P:=Tryz.prog) w w.heap.size 79 4 i1 _ 1 Tryz.underlying79 ki kz0 kz1 .i64 .i64 n (by rw [kz2];omega) (by unfold maxLen;omega) (Nat.le_refl _)
 exact ⟨w',hrun,(Below.refl _ w).grown r2 (Nat.le_refl _) (fun _ h=>by cases h),own_bools r1⟩
section
variable {w w':World} {g k:Nat} {T:Nat->Bool}
theorem Bl.same (h:Bl w g k T) (hq:w'.heap[g]?=w.heap[g]?) (hs:w.heap.size<=w'.heap.size):Bl w' g k T :=
 ⟨Nat.lt_of_lt_of_le h.lt hs,fun j hj=>by rw [World.cell?_of_block (w:=w) hq];exact h.at_ j hj,fun j hj=>by rw [World.frozen?_of_block (w:=w) hq];exact h.free j hj⟩
theorem Bl.only {F:Nat->Prop} (h:Bl w g k T) (ho:Sh.Only F w w') (hg:¬F g):Bl w' g k T:=h.same (ho.block _ h.lt hg) ho.size
theorem Bl.grown (h:Bl w g k T) (hb:Below w.heap.size w w'):Bl w' g k T:=h.same (hb.block _ h.lt) hb.size
theorem Bl.alike {T':Nat->Bool} (h:Bl w g k T) (e:∀j,j<k->T j=T' j):Bl w g k T':=⟨h.lt,fun j hj=>by rw [<- e j hj];exact h.at_ j hj,h.free⟩
theorem Bl.set (h:Bl w g k T) (i:Nat) (hi:i<k) (on:Bool):Bl (w.setCell ⟨g,i,none⟩ (.bool on)) g k (setT T i on)/\Sh.Only (fun b=>b=g) w (w.setCell ⟨g,i,none⟩ (.bool on)):=by
 have ho:Sh.Only (fun b=>b=g) w (w.setCell ⟨g,i,none⟩ (.bool on)):=(Sh.Only.refl (fun b=>b=g) w).setCell (p:=⟨g,i,none⟩) (.inl rfl) _
 refine ⟨⟨Nat.lt_of_lt_of_le h.lt ho.size,fun j hj=>?_,fun j hj=>?_⟩,ho⟩
 ·unfold setT
  by_cases e:j=i
  ·subst e
   rw [if_pos rfl]
   exact World.cell?_setCell_same _ _ _ (h.at_ j hj)
  ·rw [if_neg e,World.cell?_setCell_other _ _ _ _ (fun e2=>e (congrArg Addr.off e2).symm)]
   exact h.at_ j hj
 ·rw [World.frozen?_setCell]
  exact h.free j hj
end
section
variable {S:StoK} {G:Jg} {w w':World} {O O':Nat->Prop} {k m fi n g:Nat} {T T':Nat->Bool}
end
structure RefA (w:World) (x g k:Nat) (T:Nat->Bool):Prop where
 root:w.heap[x]?=some (.cells #[.slice (some ⟨g,0,none⟩) k k] 89 (0,0))
 row:Bl w g k T
 ne:x≠g
section
variable {w w':World} {x g k:Nat} {T:Nat->Bool}
theorem RefA.lt (h:RefA w x g k T):x<w.heap.size:=lt_of_block h.root
theorem RefA.only {F:Nat->Prop} (h:RefA w x g k T) (ho:Sh.Only F w w') (hx:¬F x) (hg:¬F g):RefA w' x g k T :=
 ⟨(ho.block _ h.lt hx).trans h.root,h.row.only ho hg,h.ne⟩
theorem RefA.grown (h:RefA w x g k T) (hb:Below w.heap.size w w'):RefA w' x g k T:=⟨(hb.block _ h.lt).trans h.root,h.row.grown hb,h.ne⟩
theorem RefA.c0 (h:RefA w x g k T):w.cell? ⟨x,0,none⟩=some (.slice (some ⟨g,0,none⟩) k k):=cell_of_row _ _ 0 _ _ _ h.root
theorem RefA.set (h:RefA w x g k T) (i:Nat) (hi:i<k) (on:Bool):RefA (w.setCell ⟨g,i,none⟩ (.bool on)) x g k (setT T i on)/\Sh.Only (fun b=>b=g) w (w.setCell ⟨g,i,none⟩ (.bool on)):=by
 obtain ⟨h1,h2⟩:=h.row.set i hi on
 exact ⟨⟨(h2.block _ h.lt h.ne).trans h.root,h1,h.ne⟩,h2⟩
theorem RefA.alike {T':Nat->Bool} (h:RefA w x g k T) (e:∀j,j<k->T j=T' j):RefA w x g k T':=⟨h.root,h.row.alike e,h.ne⟩
theorem refNew (k:Nat) (hk:k<=10000) (w:World):Calls Tryz.prog 50 #[.int .i64 (k:Int)] w fun e w'=>∃x g,e=.returned (.pointer (some ⟨x,0,none⟩))/\RefA w' x g k (fun _=>false)/\Below w.heap.size w w'/\w.heap.size<=x/\w.heap.size<=g:=by
 obtain ⟨w1,hmk,hb1,hbl1⟩:=new_bools w k hk
 have HB:=hid (And.intro hb1 hbl1)
 clear hb1 hbl1
 go_enter Tryz.func50,Tryz.ntmps50
 go_wp2
 go_ret
 have hb2:Below w1.heap.size w1 (w1.alloc (.cells #[.slice (some ⟨w.heap.size,0,none⟩) k k] 89)):=(Below.refl _ _).alloc (Nat.le_refl _) _
 have hl:=HB.out.2.lt
 exact ⟨w1.heap.size,w.heap.size,rfl,⟨heap_alloc_new w1 _,HB.out.2.grown hb2,by omega⟩,HB.out.1.trans (hb2.mono HB.out.1.size),by omega,Nat.le_refl _⟩
theorem refHas (h:RefA w x g k T) (i:Nat) (hi:i<k) (_:k<=10000):Calls Tryz.prog 109 #[.pointer (some ⟨x,0,none⟩),.int .i64 (i:Int)] w fun e w'=>e=.returned (.tuple #[.bool (T i),.int .i64 0])/\w=w':=by
 have c0:=h.c0
 have ci:=h.row.at_ i hi
 clear h
 go_enter Tryz.func109,Tryz.ntmps109
 go_wp2
 go_ret2
 exact ⟨rfl,rfl⟩
theorem refGive (h:RefA w x g k T) (i:Nat) (hi:i<k) (hk:k<=10000):Calls Tryz.prog 108 #[.pointer (some ⟨x,0,none⟩),.int .i64 (i:Int)] w fun e w'=>e=.returned (.int .i64 (if T i=true then 0 else 9))/\RefA w' x g k (setT T i false)/\Sh.Only (fun b=>b=g) w w':=by
 have HH:=hid (refHas h i hi hk)
 have c0:=h.c0
 have ci:=h.row.at_ i hi
 have fi:=h.row.free i hi
 have HS:=hid (h.set i hi false)
 cases ht:T i with
 | true =>
  rw [ht] at HH ci
  clear h ht
  go_enter Tryz.func108,Tryz.ntmps108
  go_wp2_with fail
  refine HH.out.mono ?_
  rintro e w1 ⟨rfl,rfl⟩
  go_wp2
  go_ret
  exact ⟨rfl,HS.out.1,HS.out.2⟩
 | false =>
  rw [ht] at HH ci
  have HA:=hid (h.alike (T':=setT T i false) (fun j _=>by unfold setT;split<;>simp_all))
  clear h ht
  go_enter Tryz.func108,Tryz.ntmps108
  go_wp2_with fail
  refine HH.out.mono ?_
  rintro e w1 ⟨rfl,rfl⟩
  go_wp2
  go_ret
  exact ⟨rfl,HA.out,Sh.Only.refl _ _⟩
theorem refTake (h:RefA w x g k T) (hk:k<=10000):Calls Tryz.prog 107 #[.pointer (some ⟨x,0,none⟩)] w fun e w' =>
  (∃i,i<k/\T i=false/\(∀j,j<i->T j=true)/\e=.returned (.tuple #[.int .i64 (i:Int),.int .i64 0])/\RefA w' x g k (setT T i true)/\Sh.Only (fun b=>b=g) w w') \/
   ((∀j,j<k->T j=true)/\e=.returned (.tuple #[.int .i64 0,.int .i64 27])/\w=w'):=by
 have c0:=h.c0
 have HH:=hid h
 clear h
 go_enter Tryz.func107,Tryz.ntmps107
 go_wp2
 go_loopw [4] (fun s4 wr=>∃j:Nat,j<=k/\s4=.int .i64 j/\w=wr/\Hid (∀i,i<j->T i=true)) (fun s4 _=>k-(intOf s4).toNat)
 case atStart=>exact ⟨0,Nat.zero_le _,rfl,rfl,hid fun i hi=>absurd hi (by omega)⟩
 case round =>
  obtain ⟨j,hj,rfl,rfl,hall⟩:=hrel
  by_cases hlt:j<k
  ·have cj:=HH.out.row.at_ j hlt
   cases ht:T j with
   | true =>
    rw [ht] at cj
    have HT:=hid ht
    clear ht
    go_wp2
    go_roundw
    case rel=>exact ⟨j+1,by omega,by go_num,by trivial,hid fun i hi=>(Nat.lt_or_eq_of_le (Nat.le_of_lt_succ hi)).elim (hall.out i) (fun e=>by rw [e];exact HT.out)⟩
    case measure=>simp [intOf];omega
   | false =>
    rw [ht] at cj
    have fj:=HH.out.row.free j hlt
    have HS:=hid (HH.out.set j hlt true)
    have HT:=hid ht
    clear ht
    go_wp2
    go_ret2
    exact .inl ⟨j,hlt,HT.out,hall.out,rfl,HS.out.1,HS.out.2⟩
  ·obtain rfl:j=k:=by omega
   go_wp2
   go_ret2
   exact .inr ⟨hall.out,rfl,rfl⟩
end
theorem aBlocks_any (n:Int) (w:World) (h1:-100000<=n) (h2:n<=100000):Calls Tryz.prog 49 #[.int .i64 n] w fun e w'=>e=.returned (.int .i64 (((n+1023) / 1024).toNat:Int))/\w=w':=by
 by_cases h:n<1
 ·have q:decide (n<1)=true:=by simpa using h
  have e:((n+1023) / 1024).toNat=0:=by omega
  rw [e]
  go_enter Tryz.func49,Tryz.ntmps49
  go_wp2
  go_ret
  exact ⟨rfl,rfl⟩
 ·obtain ⟨m,rfl⟩:∃m:Nat,n=(m:Int):=⟨n.toNat,by omega⟩
  refine (aBlocks m w (by omega) (by omega)).mono ?_
  rintro e w' ⟨rfl,rfl⟩
  refine ⟨?_,rfl⟩
  congr 3
  omega
structure Duo (S:StoK) (G:Jg) (w:World) (m fi n:Nat) (O:Nat->Prop) (T:Nat->Bool) (k x g:Nat):Prop where
 alc:Alc S G w m fi n O T k
 ref:RefA w x g n T
 out:¬O x/\¬O g/\x≠m/\g≠m
section
variable {S:StoK} {G:Jg} {w w':World} {O O':Nat->Prop} {k k' m fi n x g:Nat} {T T':Nat->Bool}
theorem Duo.grown (h:Duo S G w m fi n O T k x g) (hb:Below w.heap.size w w'):Duo S G w' m fi n O T k x g:=⟨h.alc.grown hb,h.ref.grown hb,h.out⟩
theorem Duo.less (h:Duo S G w m fi n O T k x g) (hk:k'<=k):Duo S G w m fi n O T k' x g:=⟨h.alc.less hk,h.ref,h.out⟩
theorem out_moved (h:¬O x/\¬O g/\x≠m/\g≠m) (hm:Sh.Moves O w O' w') (hx:x<w.heap.size) (hg:g<w.heap.size):¬O' x/\¬O' g/\x≠m/\g≠m :=
 ⟨fun e=>(hm.2 _ e).elim h.1 (fun q=>by omega),fun e=>(hm.2 _ e).elim h.2.1 (fun q=>by omega),h.2.2⟩
theorem Duo.both {wm:World} (h:Duo S G w m fi n O T k x g) (ha:Alc S G wm m fi n O' T' k') (hm:Sh.Moves O w O' wm) (hr:RefA w' x g n T') (ho:Sh.Only (fun b=>b=g) wm w'):Duo S G w' m fi n O' T' k' x g:=by
 have h2:=out_moved h.out hm h.ref.lt h.ref.row.lt
 exact ⟨ha.only ho (fun b hb=>by rw [hb];exact ⟨h2.2.1,h2.2.2.2⟩),hr,h2⟩
theorem Duo.ref_moved (h:Duo S G w m fi n O T k x g) (hm:Sh.Moves O w O' w'):RefA w' x g n T:=h.ref.only hm.1 h.out.1 h.out.2.1
theorem duo_moves {w0 wm:World} (hb:Below w0.heap.size w0 w) (hm:Sh.Moves O w O' wm) (ho:Sh.Only (fun b=>b=g) wm w'):Sh.Moves (fun b=>O b\/b=g) w0 (fun b=>O' b\/b=g) w' :=
 have h1:=moves_below hb hm
 ⟨(h1.1.mono (F':=fun b=>O b\/b=g) (fun _ e=>.inl e)).trans ho (fun _ e=>.inl (.inr e)),fun b e=>e.elim (fun e=>(h1.2 b e).imp .inl id) (fun e=>.inl (.inr e))⟩
def opV12 (kind:Int) (n:Int):Value:=.agg #[.int .i64 kind,.int .i64 n,.slice none 0 0]
theorem Alc.n4 (h:Alc S G w m fi n O T k):1<=n/\n<=4096:=by obtain ⟨s,h1,_⟩:=h.ex;exact h1.cnt
set_option maxRecDepth 20000 in
theorem does_take (h:Duo S G w m fi n O T (k+10) x g) (i:Int):Calls Tryz.prog 52 #[.pointer (some ⟨m,0,none⟩),.pointer (some ⟨x,0,none⟩),opV12 1 i] w fun e w'=>∃O' T',e=.returned (.bool true)/\Duo S G w' m fi n O' T' k x g/\(∀j,n<=j->T' j=T j)/\Sh.Moves (fun b=>O b\/b=g) w (fun b=>O' b\/b=g) w':=by
 have hb0:Below w.heap.size w (w.alloc (.cells #[.int .i64 1,.int .i64 i,.slice none 0 0] 93)):=(Below.refl _ _).alloc (Nat.le_refl _) _
 have hrow:=heap_alloc_new w (.cells #[.int .i64 1,.int .i64 i,.slice none 0 0] 93)
 obtain ⟨w1,hw1⟩:∃w1,w.alloc (.cells #[.int .i64 1,.int .i64 i,.slice none 0 0] 93)=w1:=⟨_,rfl⟩
 rw [hw1] at hb0 hrow
 have k0:=cell_of_row _ _ 0 _ _ _ hrow
 simp only [List.getElem?_toArray,List.getElem?_cons_zero] at k0
 have h1:=h.grown hb0
 have hn:=h.alc.n4
 have HT:=hid h1.alc.take
 have HD:=hid h1
 unfold opV12
 have HB0:=hid hb0
 clear h h1 hb0 hrow
 go_enter Tryz.func52,Tryz.ntmps52
 go_wp2_with fail
 refine HT.out.mono ?_
 rintro e w2 ⟨O2,hmv,⟨a,ha,ht,hl,rfl,hal⟩ | ⟨hall,rfl,hal⟩⟩
 ·have HR:=hid (refTake (HD.out.ref_moved hmv) (by omega))
  have H2:=hid (And.intro hmv (And.intro ha (And.intro ht (And.intro hl hal))))
  have han:a<=4096:=by omega
  clear hmv ha ht hl hal HT
  go_wp2_with fail
  refine HR.out.mono ?_
  rintro e w3 (⟨a2,ha2,ht2,hl2,rfl,hr2,ho2⟩ | ⟨hall,_,_⟩)
  ·obtain rfl:a2=a:=by
    rcases Nat.lt_trichotomy a2 a with q | q | q
    ·rw [H2.out.2.2.2.1 a2 q] at ht2;cases ht2
    ·exact q
    ·rw [hl2 a q] at H2;exact absurd H2.out.2.2.1 (by decide)
   have H3:=hid (And.intro (HD.out.both H2.out.2.2.2.2 H2.out.1 hr2 ho2) (duo_moves HB0.out H2.out.1 ho2))
   clear ha2 ht2 hl2 hr2 ho2 HR
   go_wp2
   go_ret
   exact ⟨O2,_,rfl,H3.out.1,fun j hj=>by unfold setT;rw [if_neg (by have:=H2.out.2.1;omega)],H3.out.2⟩
  ·exact absurd (hall a H2.out.2.1) (by rw [H2.out.2.2.1];decide)
 ·have HR:=hid (refTake (HD.out.ref_moved hmv) (by omega))
  have H2:=hid (And.intro hmv (And.intro hall hal))
  clear hmv hall hal HT
  go_wp2_with fail
  refine HR.out.mono ?_
  rintro e w3 (⟨a2,ha2,ht2,_,_,_,_⟩ | ⟨hall,rfl,rfl⟩)
  ·exact absurd (H2.out.2.1 a2 ha2) (by rw [ht2];decide)
  ·have H3:=hid (And.intro (HD.out.both H2.out.2.2 H2.out.1 (HD.out.ref_moved H2.out.1) (Sh.Only.refl _ _)) (duo_moves HB0.out H2.out.1 (Sh.Only.refl (fun b=>b=g) _)))
   clear hall HR
   go_wp2
   go_ret
   exact ⟨O2,_,rfl,H3.out.1,fun _ _=>rfl,H3.out.2⟩
set_option maxRecDepth 20000 in
set_option maxHeartbeats 2000000 in
theorem does_give (h:Duo S G w m fi n O T (k+2) x g) (i:Nat) (hi:i<n):Calls Tryz.prog 52 #[.pointer (some ⟨m,0,none⟩),.pointer (some ⟨x,0,none⟩),opV12 2 i] w fun e w'=>∃O',e=.returned (.bool true)/\Duo S G w' m fi n O' (setT T i false) k x g/\Sh.Moves (fun b=>O b\/b=g) w (fun b=>O' b\/b=g) w':=by
 have hb0:Below w.heap.size w (w.alloc (.cells #[.int .i64 2,.int .i64 (i:Int),.slice none 0 0] 93)):=(Below.refl _ _).alloc (Nat.le_refl _) _
 have hrow:=heap_alloc_new w (.cells #[.int .i64 2,.int .i64 (i:Int),.slice none 0 0] 93)
 obtain ⟨w1,hw1⟩:∃w1,w.alloc (.cells #[.int .i64 2,.int .i64 (i:Int),.slice none 0 0] 93)=w1:=⟨_,rfl⟩
 rw [hw1] at hb0 hrow
 have k0:=cell_of_row _ _ 0 _ _ _ hrow
 have k1:=cell_of_row _ _ 1 _ _ _ hrow
 simp only [List.getElem?_toArray,List.getElem?_cons_zero,List.getElem?_cons_succ] at k0 k1
 have hn:=h.alc.n4
 have hD1:=h.grown hb0
 have HB:Hid (w.heap.size<w1.heap.size/\¬O w.heap.size/\¬w.heap.size=g):=hid ⟨lt_of_block hrow,fun e=>Nat.lt_irrefl _ (h.alc.lts _ e),fun e=>by have:=h.ref.row.lt;omega⟩
 have HG:=hid (fun (W:World) (hb:Below w1.heap.size w1 W)=>(hD1.grown hb).alc.give i hi)
 have HD1:=hid (hD1.grown (below_drewN (Below.refl _ _) 1))
 have hi2:i<=4096:=by omega
 have HB0:=hid (hb0.trans ((below_drewN (Below.refl _ w1) 1).mono hb0.size))
 unfold opV12
 clear h hb0 hrow hD1
 go_enter Tryz.func52,Tryz.ntmps52
 cases ht:T i with
 | true =>
  rw [if_pos ht] at HG
  go_wp2
  refine wp_region_held_drew (S:=fun (W:World)=>W.cell? ⟨w.heap.size,1,none⟩=some (.int .i64 (i:Int))) (by kernel_rfl) k1 (fun hHeld=>?_)
  refine tq 0 41 ?_
  refine tq 1 42 ?_
  refine tq 2 43 ?_
  refine tq 4 45 ?_
  refine tq 5 46 ?_
  refine tq 6 47 ?_
  refine rq 3 (some 44) fun K hK=>?_
  go_simp
  refine (HG.out _ (below_drewN (Below.refl _ _) 1)).mono ?_
  rintro e w2 ⟨O2,hmv,rfl,hal⟩
  have hk2:=(hmv.1.cell (p:=⟨w.heap.size,1,none⟩) HB.out.1 HB.out.2.1).trans hHeld
  have HR:=hid (refGive (HD1.out.ref_moved hmv) i hi (by omega))
  rw [if_pos ht] at HR
  refine hK.out _ _ hk2 (fun hHeld=>?_)
  clear hK K
  try simp only [Act.put,List.setIfInBounds_toArray,List.set_cons_zero,List.set_cons_succ]
  refine rq 7 (some 48) fun K hK=>?_
  go_simp
  refine HR.out.mono ?_
  rintro e w3 ⟨rfl,hr3,ho3⟩
  have hk3:=(ho3.cell (p:=⟨w.heap.size,1,none⟩) (Nat.lt_of_lt_of_le HB.out.1 hmv.1.size) HB.out.2.2).trans hHeld
  refine hK.out _ _ hk3 (fun hHeld=>?_)
  clear hK K
  try simp only [Act.put,List.setIfInBounds_toArray,List.set_cons_zero,List.set_cons_succ]
  refine tq 8 49 ?_
  refine tq 9 6 ?_
  refine wpAnyH_done (by kernel_rfl) ?_ _
  have H3:=hid (And.intro (HD1.out.both hal hmv hr3 ho3) (duo_moves HB0.out hmv ho3))
  clear hHeld HR hal hmv hr3 ho3
  go_wp2
  go_ret
  exact ⟨O2,rfl,H3.out.1,H3.out.2⟩
 | false =>
  rw [if_neg (by rw [ht];decide)] at HG
  go_wp2
  refine wp_region_held_drew (S:=fun (W:World)=>W.cell? ⟨w.heap.size,1,none⟩=some (.int .i64 (i:Int))) (by kernel_rfl) k1 (fun hHeld=>?_)
  refine tq 0 41 ?_
  refine tq 1 42 ?_
  refine tq 2 43 ?_
  refine tq 4 45 ?_
  refine tq 5 46 ?_
  refine tq 6 47 ?_
  refine rq 3 (some 44) fun K hK=>?_
  go_simp
  refine (HG.out _ (below_drewN (Below.refl _ _) 1)).mono ?_
  rintro e w2 ⟨O2,hmv,rfl,hal⟩
  have hk2:=(hmv.1.cell (p:=⟨w.heap.size,1,none⟩) HB.out.1 HB.out.2.1).trans hHeld
  have HR:=hid (refGive (HD1.out.ref_moved hmv) i hi (by omega))
  rw [if_neg (by rw [ht];decide)] at HR
  refine hK.out _ _ hk2 (fun hHeld=>?_)
  clear hK K
  try simp only [Act.put,List.setIfInBounds_toArray,List.set_cons_zero,List.set_cons_succ]
  refine rq 7 (some 48) fun K hK=>?_
  go_simp
  refine HR.out.mono ?_
  rintro e w3 ⟨rfl,hr3,ho3⟩
  have hk3:=(ho3.cell (p:=⟨w.heap.size,1,none⟩) (Nat.lt_of_lt_of_le HB.out.1 hmv.1.size) HB.out.2.2).trans hHeld
  refine hK.out _ _ hk3 (fun hHeld=>?_)
  clear hK K
  try simp only [Act.put,List.setIfInBounds_toArray,List.set_cons_zero,List.set_cons_succ]
  refine tq 8 49 ?_
  refine tq 9 6 ?_
  refine wpAnyH_done (by kernel_rfl) ?_ _
  have H3:=hid (And.intro (HD1.out.both hal hmv hr3 ho3) (duo_moves HB0.out hmv ho3))
  clear hHeld HR hal hmv hr3 ho3
  go_wp2
  go_ret
  exact ⟨O2,rfl,H3.out.1,H3.out.2⟩
end
open Go.Proofs.YtcnjpmcelihknaaGreatDoor.U (Pad RowB)
open Go.Proofs.YtcnjpmcelihknaaGreatDoor.Sh (bts bts_length Reads)
def bL (p od j:Nat):List Nat:=(List.range 128).map fun i=>if p<=i/\i<j then od else 0
theorem bL_length (p od j:Nat):(bL p od j).length=128:=by simp [bL]
theorem bL_zero (p od:Nat):bL p od p=List.replicate 128 0:=by
 unfold bL
 rw [List.map_congr_left (g:=fun _=>0) (fun i _=>if_neg (by omega))]
 rfl
theorem bL_succ (p od:Nat) {j:Nat} (hp:p<=j):(bL p od j).set j od=bL p od (j+1):=by
 refine List.ext_getElem? fun i=>?_
 by_cases hi:i<128
 ·by_cases e:i=j
  ·subst e
   rw [List.getElem?_set_self (by rw [bL_length];exact hi)]
   simp [bL,hi,hp]
  ·rw [List.getElem?_set_ne (by omega)]
   simp only [bL,List.getElem?_map,List.getElem?_range hi,Option.map_some]
   congr 1
   by_cases h:p<=i/\i<j
   ·rw [if_pos h,if_pos (by omega)]
   ·rw [if_neg h,if_neg (by omega)]
 ·rw [List.getElem?_eq_none (by rw [List.length_set,bL_length];omega),List.getElem?_eq_none (by rw [bL_length];omega)]
theorem bL_sec (p:Nat) {od:Nat} (ho:od<256) (j:Nat):Sh.Sec (bL p od j):=⟨bL_length p od j,fun x hx=>by
 obtain ⟨i,_,rfl⟩:=List.mem_map.1 hx
 split
 ·exact ho
 ·decide⟩
theorem pad_rowB {w:World} {g:Nat} (h:Pad w g []):RowB w g (List.replicate 128 0) []:=by
 unfold RowB
 unfold Pad at h
 rw [h]
 rfl
theorem RowB.set {w:World} {g:Nat} {l:List Nat} {rest:List Value} (h:RowB w g l rest) (j x:Nat) (hj:j<l.length):RowB (w.setCell ⟨g,j,none⟩ (.int .u8 (x:Int))) g (l.set j x) rest:=by
 unfold RowB at *
 refine (heap_setCell_same w g j _ _ _ h).trans ?_
 congr 2
 rw [<- Array.toList_inj,Array.toList_setIfInBounds,List.toList_toArray,List.toList_toArray,List.set_append_left _ _ (by rw [bts_length];exact hj)]
 congr 1
 unfold bts
 rw [List.map_set]
theorem rowB_cell {w:World} {g:Nat} {l:List Nat} {rest:List Value} (h:RowB w g l rest) {j:Nat} (hj:j<l.length):w.cell? ⟨g,j,none⟩=some (.int .u8 ((l.getD j 0:Nat):Int)):=by
 rw [cell_of_row _ _ j _ _ _ h,List.getElem?_toArray,List.getElem?_append_left (by rw [bts_length];exact hj)]
 simp [bts,List.getD,hj]
section
variable {S:StoK} {G:Jg} {w w':World} {O O':Nat->Prop} {s:Js} {k k' m fi n:Nat} {T:Nat->Bool}
theorem open_alc2 (hs:∀z∈s.R,fi<=z.1/\z.1<fi+4) (hj:Jou S G w O s (k+10)) (hn:1<=n/\n<=4096) (hown:∀i,i<(n-1) / 1024+1->mine S G (fi+i)) :
  Calls Tryz.prog 46 #[.pointer (some ⟨G.p,0,none⟩),.int .i64 (fi:Int),.int .i64 (n:Int)] w fun e w'=>∃(m:Nat) (O':Nat->Prop),e=.returned (.tuple #[.pointer (some ⟨m,0,none⟩),.int .i64 0])/\Alc S G w' m fi n O' (tkA s.look fi) k/\Sh.Moves O w O' w'/\w.heap.size<=m:=by
 refine (aOpen hj fi n hn hown).mono ?_
 rintro e w' ⟨m,O',rfl,hr,hnm,hj',hmv,hm⟩
 exact ⟨m,O',rfl,⟨s,hr,hnm,hj',fun _=>rfl,hs⟩,hmv,hm⟩
theorem Alc.read (h:Alc S G w m fi n O T (k+2)) (b:Nat) (hb:Go.Proofs.YtcnjpmcelihknaaGreatDoor.Kj.mine S G b):Calls Tryz.prog 36 #[.pointer (some ⟨G.p,0,none⟩),.int .i64 (b:Int)] w fun e w' =>
  ∃(A:Option Addr) (cap:Nat) (O':Nat->Prop) (l:Sh.Bs),e=.returned (.tuple #[.slice A 128 cap,.int .i64 0])/\Alc S G w' m fi n O' T k/\Sh.Moves O w O' w'/\Reads w' w'.heap.size A 128 (bts l)/\Sh.Sec l/\∀j,fi+j / 1024=b->bitB l (j%1024)=T j:=by
 obtain ⟨s,h1,h2,h3,h4,h5⟩:=h.ex
 have hsec:=h3.sec b hb.1
 refine (jRead h3 b hb).mono ?_
 rintro e w' ⟨A,cap,O',rfl,hj,hmv,hby,_⟩
 obtain ⟨hr,hn⟩:=h1.moves hmv h2
 refine ⟨A,cap,O',s.look b,rfl,⟨s,hr,hn,hj,h4,h5⟩,hmv,hby.1,hsec,fun j hj=>?_⟩
 rw [<- h4 j]
 unfold tkA
 rw [hj]
end
end Go.Proofs.YtcnjpmcelihknaaGreatDoor.Kj
namespace Go.Proofs.YtcnjpmcelihknaaGreatDoor.Kc
open Go.ChangeShapes Go.WideShapes Go.ChangeAt Go.RowKit Go.Maps
section
variable {H:Type} {enc:TypeId × Value->H} {W:World}
theorem cells_got {base n:Nat} {a:Addr} {xs:List Value} (h:W.cells? base a n=some xs):xs.length=n/\∀k,k<n->∃v,xs[k]?=some v/\W.cell? (a.add k)=some v:=by
 unfold World.cells? at h
 split at h
 ·have hl:xs.length=n:=by simpa using mapM_some_length h
  refine ⟨hl,fun k hk=>?_⟩
  have:=mapM_some_get h k k (by simp [hk])
  rw [List.getElem?_eq_getElem (by omega)] at this
  exact ⟨_,List.getElem?_eq_getElem (by omega),this⟩
 ·cases h
theorem int_off {m:Nat} {v:Value} {y:DataW H × List MemPlace} (h:DataW.trod enc Tryz.prog W 0 (fun _=>true) true m 3 [v]=some y):∃z:Int,v=.int .i64 z/\-9223372036854775808<=z/\z<=9223372036854775807:=by
 cases m with
 | zero=>simp [DataW.trod] at h
 | succ m =>
  simp only [DataW.trod,Tryz.underlying3] at h
  cases v<;>simp at h
  rename_i k b
  obtain ⟨⟨rfl,hw⟩,_⟩:=h
  exact ⟨b,rfl,bounds_i64 hw⟩
def I64 (z:Int):Prop:=-9223372036854775808<=z/\z<=9223372036854775807
def Ints10 (W:World) (A:Option Addr) (n:Nat) (f:Nat->Int):Prop:=n<=9223372036854775807/\(0<n->∃b off,A=some ⟨b,off,none⟩/\b<W.heap.size/\∀i,i<n->W.cell? ⟨b,off+i,none⟩=some (.int .i64 (f i))/\I64 (f i))
theorem cellsI10:Tryz.prog.cellsOf 3=1:=by kernel_rfl
theorem ints10_in {fuel n c:Nat} {A:Option Addr} {x:DataW H × List MemPlace} (h:DataW.trod enc Tryz.prog W 0 (fun _=>true) true fuel 22 [.slice A n c]=some x):∃f,Ints10 W A n f:=by
 rcases DataW.trod_slice Tryz.underlying22 h with ⟨h0,hx⟩ | ⟨a,len,cap,elems,rest,m,_,h0,hx,_,hl,hm,hlen,hel,_⟩
 ·simp only [List.cons.injEq,Value.slice.injEq,and_true] at h0
  obtain ⟨rfl,rfl,rfl⟩:=h0
  exact ⟨fun _=>0,by decide,fun h=>absurd h (by decide)⟩
 ·simp only [List.cons.injEq,Value.slice.injEq,and_true] at h0
  obtain ⟨rfl,rfl,rfl⟩:=h0
  have hcs:∀i,i<n->∃z:Int,W.cell? (a.add i)=some (.int .i64 z)/\I64 z:=by
   intro i hi
   have h1:=hel i hi
   rw [cellsI10,Nat.mul_one,List.getElem?_eq_getElem (by omega),Option.bind_eq_some_iff] at h1
   obtain ⟨cs,hcs,hy⟩:=h1
   obtain ⟨hl1,hg⟩:=cells_got hcs
   obtain ⟨v,hv,hcv⟩:=hg 0 (by decide)
   have e:cs=[v]:=by
    match cs,hl1,hv with
    | [u],_,hv=>simpa using hv
   subst e
   have e2:(a.add i).add 0=a.add i:=by unfold Addr.add;simp
   rw [e2] at hcv
   obtain ⟨z,rfl,hz⟩:=int_off hy
   exact ⟨z,hcv,hz⟩
  rcases Nat.eq_zero_or_pos n with h0 | h0
  ·exact ⟨fun _=>0,by unfold maxLen at hm;omega,fun h=>by omega⟩
  ·obtain ⟨b,off,spot⟩:=a
   obtain ⟨v,hv,_⟩:=hcs 0 h0
   have hspot:spot=none:=by simpa [Addr.add] using World.cell?_spot hv
   subst hspot
   have hblt:=World.block_lt_of_cell? W _ hv
   rw [Sh.block_of_add] at hblt
   have hz:∀i,∃v:Int,i<n->W.cell? ⟨b,off+i,none⟩=some (.int .i64 v)/\I64 v:=by
    intro i
    by_cases hi:i<n
    ·obtain ⟨v,hv,hb⟩:=hcs i hi
     rw [U.add_plain] at hv
     exact ⟨v,fun _=>⟨hv,hb⟩⟩
    ·exact ⟨0,fun h=>absurd h hi⟩
   obtain ⟨f,hf⟩:=Classical.axiomOfChoice hz
   exact ⟨f,by unfold maxLen at hm;omega,fun _=>⟨b,off,rfl,hblt,hf⟩⟩
end
end Go.Proofs.YtcnjpmcelihknaaGreatDoor.Kc
namespace Go.Proofs.YtcnjpmcelihknaaGreatDoor.U.cacheNobody
open Go.ChangeShapes Go.WideShapes Go.ChangeAt Go.RowKit
abbrev laidBoth : List (String × DataW Unit) := [("ashlar/octets.lowRests", Rows.laid_ashlar_octets_lowRests), ("ashlar/octets.highRests", Rows.laid_ashlar_octets_highRests), ("ashlar/ppl.fields", Rows.laid_ashlar_ppl_fields), ("ashlar/super.widths", Rows.laid_ashlar_super_widths)]
theorem tabs_of_laid {W:World} (h:laidMetH Tryz.prog laidBoth W):All10 W:=by
 rw [MakeChecks.laidMetH_plain _ _ _ (by kernel_rfl)] at h
 obtain ⟨ps,⟨g0,t0,cs0,f0,p0,q0,hg0,ht0,hv0,hd0,⟨g1,t1,cs1,f1,p1,q1,hg1,ht1,hv1,hd1,⟨g2,t2,cs2,f2,p2,q2,hg2,ht2,hv2,hd2,⟨g3,t3,cs3,f3,p3,q3,hg3,ht3,hv3,hd3,_,_⟩,_⟩,_⟩,_⟩,_,_⟩:=h
 obtain rfl:=Option.some.inj (gLow.symm.trans hg0)
 obtain rfl:=Option.some.inj (gHigh.symm.trans hg1)
 obtain rfl:=Option.some.inj (gFld.symm.trans hg2)
 obtain rfl:=Option.some.inj (gWid.symm.trans hg3)
 obtain rfl:=Option.some.inj (gWidType.symm.trans ht3)
 obtain rfl:=Option.some.inj (gLowType.symm.trans ht0)
 obtain rfl:=Option.some.inj (gHighType.symm.trans ht1)
 obtain rfl:=Option.some.inj (gFldType.symm.trans ht2)
 have e0:cs0.toList=(Nums.lowT.map fun (x:Nat)=>(x:Int)).map fun z=>Value.int .u32 z:=Lib.cells_of_tab Tryz.underlying216 Tryz.underlying23 cellsU32 cells16 hd0
 have e1:cs1.toList=(Nums.highT.map fun (x:Nat)=>(x:Int)).map fun z=>Value.int .u32 z:=Lib.cells_of_tab Tryz.underlying216 Tryz.underlying23 cellsU32 cells16 hd1
 have e2:=flds_val hd2
 have e3:cs3.toList=widZ.map fun z=>Value.int .i64 z:=Lib.cells_of_tab Tryz.underlying289 Tryz.underlying3 cellsInt cells8 hd3
 have wid0:∀i:Fin 8,widZ[i.val]?=some (((Go.Proofs.YtcnjpmcelihknaaGreatDoor.S.widL.getD i.val 0:Nat):Int)):=by decide
 have low:∀i:Fin 16,((Nums.lowT.map fun (x:Nat)=>(x:Int)).map fun z=>Value.int .u32 z)[i.val]?=some (.int .u32 ((Nums.low i.val:Nat):Int)):=by
  intro i
  have:i.val<Nums.lowT.length:=i.isLt
  simp [Nums.low,List.getD,List.getElem?_eq_getElem this]
 have high:∀i:Fin 16,((Nums.highT.map fun (x:Nat)=>(x:Int)).map fun z=>Value.int .u32 z)[i.val]?=some (.int .u32 ((Nums.high i.val:Nat):Int)):=by
  intro i
  have:i.val<Nums.highT.length:=i.isLt
  simp [Nums.high,List.getD,List.getElem?_eq_getElem this]
 refine ⟨⟨fun i hi=>?_,fun i hi=>?_⟩,⟨fun i hi=>?_,fun i hi=>?_⟩,fun i hi=>?_⟩
 ·have h1:=World.var?_cell hg0 hv0 i
  have h2:=low ⟨i,hi⟩
  rw [<- e0] at h2
  rw [h1]
  simpa using h2
 ·have h1:=World.var?_cell hg1 hv1 i
  have h2:=high ⟨i,hi⟩
  rw [<- e1] at h2
  rw [h1]
  simpa using h2
 ·rw [World.var?_cell hg2 hv2 (i*2)]
  have h2:cs2.toList[i*2]?=some (.int .i64 ((4+i*4:Nat):Int)):=by
   rw [e2]
   obtain rfl | rfl | rfl:i=0\/i=1\/i=2:=by omega
   all_goals rfl
  simpa using h2
 ·rw [World.var?_cell hg2 hv2 (i*2+1)]
  have h2:cs2.toList[i*2+1]?=some (.int .u64 ((cntL.getD i 0:Nat):Int)):=by
   rw [e2]
   obtain rfl | rfl | rfl:i=0\/i=1\/i=2:=by omega
   all_goals rfl
  simpa using h2
 ·have h1:=World.var?_cell hg3 hv3 i
  have h2:(widZ.map fun z=>Value.int .i64 z)[i]?=some (.int .i64 ((Go.Proofs.YtcnjpmcelihknaaGreatDoor.S.widL.getD i 0:Nat):Int)):=by rw [List.getElem?_map,wid0 ⟨i,hi⟩];rfl
  rw [<- e3] at h2
  rw [h1]
  simpa using h2
end Go.Proofs.YtcnjpmcelihknaaGreatDoor.U.cacheNobody
