/-
  What the statement's proof rests on, part 48.
  Conditions: each theorem's own.
-/
import Derived.Test.YtcnjpmcelihknaaGreatDoorZ45
import Derived.Test.YtcnjpmcelihknaaGreatDoorZ47
import Derived.Test.YtcnjpmcelihknaaGreatDoorZ41
open Go.Lib (hid)
namespace Go.Proofs.YtcnjpmcelihknaaGreatDoor.Kj
open Go.RowKit Go.Maps
theorem rises_len:∀(R:List (Nat × Sh.Bs)) (a c:Nat),Rises R->(∀z∈R,a<=z.1/\z.1<c)->R.length<=c-a
 | [],_,_,_,_=>Nat.zero_le _
 | q :: r,a,c,h,hb=>by
  obtain ⟨h1,h2⟩:=List.pairwise_cons.1 h
  have hq:=hb q (List.mem_cons_self ..)
  have:=rises_len r (q.1+1) c h2 fun z hz=>⟨h1 z hz,(hb z (List.mem_cons_of_mem _ hz)).2⟩
  rw [List.length_cons];omega
def setT (T:Nat->Bool) (i:Nat) (on:Bool) (j:Nat):Bool:=if j=i then on else T j
section
variable {S:StoK} {G:Jg} {w w':World} {O O':Nat->Prop} {s:Js} {k k' m fi n:Nat} {T:Nat->Bool}
theorem tk_put {i:Nat} (hj:Jou S G w O s k) (hb:mine S G (fi+i / 1024)) (on:Bool) (j:Nat):tkA (s.put (fi+i / 1024) (withL (s.look (fi+i / 1024)) (i%1024) on)).look fi j=setT (tkA s.look fi) i on j:=by
 have hl:(s.look (fi+i / 1024)).length=128:=(hj.sec _ hb.1).1
 have e:(s.put (fi+i / 1024) (withL (s.look (fi+i / 1024)) (i%1024) on)).look=fset s.look (fi+i / 1024) (withL (s.look (fi+i / 1024)) (i%1024) on):=look_put (R:=s.R) hj.rises _ _
 unfold tkA setT
 rw [e]
 by_cases h:j / 1024=i / 1024
 ·rw [show fi+j / 1024=fi+i / 1024 by omega,fset_same,withOn_bit _ _ _ _ (by omega)]
  by_cases h2:j=i
  ·rw [if_pos h2,if_pos (by omega)]
  ·rw [if_neg h2,if_neg (by omega)]
   show _=bitB (s.look (fi+j / 1024)) (j%1024)
   rw [h]
 ·rw [fset_other _ _ (by omega),if_neg (fun e=>h (by rw [e]))]
structure Alc (S:StoK) (G:Jg) (w:World) (m fi n:Nat) (O:Nat->Prop) (T:Nat->Bool) (k:Nat):Prop where
 ex:∃s,AlR S G w m fi n/\¬O m/\Jou S G w O s k/\(∀j,tkA s.look fi j=T j)/\∀z∈s.R,fi<=z.1/\z.1<fi+4
theorem Alc.grown (h:Alc S G w m fi n O T k) (hb:Below w.heap.size w w'):Alc S G w' m fi n O T k:=by
 obtain ⟨s,h1,h2,h3,h4,h5⟩:=h.ex
 exact ⟨s,h1.grown hb,h2,h3.grown hb,h4,h5⟩
theorem Alc.less (h:Alc S G w m fi n O T k) (hk:k'<=k):Alc S G w m fi n O T k':=by
 obtain ⟨s,h1,h2,h3,h4,h5⟩:=h.ex
 exact ⟨s,h1,h2,h3.less hk,h4,h5⟩
theorem Alc.bel (h:Alc S G w m fi n O T k):Below S.B S.W w:=by
 obtain ⟨s,h1,h2,h3,h4,h5⟩:=h.ex
 exact h3.bel
theorem Alc.only {F:Nat->Prop} (h:Alc S G w m fi n O T k) (ho:Sh.Only F w w') (hF:∀b,F b->¬O b/\b≠m):Alc S G w' m fi n O T k:=by
 obtain ⟨s,h1,h2,h3,h4,h5⟩:=h.ex
 exact ⟨s,⟨h1.toAlM.same (ho.block _ h1.lt fun e=>(hF _ e).2 rfl),h1.own⟩,h2,h3.only ho fun b hb=>(hF b hb).1,h4,h5⟩
theorem few_keys (hj:Jou S G w O s k) (h:∀z∈s.R,fi<=z.1/\z.1<fi+4):s.R.length<24:=by
 have:=rises_len s.R fi (fi+4) hj.rises h
 omega
theorem keys_put {R:List (Nat × Sh.Bs)} {b:Nat} {x:Sh.Bs} (h:∀z∈R,fi<=z.1/\z.1<fi+4) (hb:fi<=b/\b<fi+4):∀z∈rput R b x,fi<=z.1/\z.1<fi+4:=fun z hz=>(rput_mem.1 hz).elim (fun e=>by rw [e];exact hb) (fun e=>h z e.1)
theorem Alc.take (h:Alc S G w m fi n O T (k+10)):Calls Tryz.prog 47 #[.pointer (some ⟨m,0,none⟩)] w fun e w'=>∃O',Sh.Moves O w O' w' /\
  ((∃i,i<n/\T i=false/\(∀j,j<i->T j=true)/\e=.returned (.tuple #[.int .i64 (i:Int),.int .i64 0])/\Alc S G w' m fi n O' (setT T i true) k) \/
   ((∀j,j<n->T j=true)/\e=.returned (.tuple #[.int .i64 0,.int .i64 27])/\Alc S G w' m fi n O' T k)):=by
 obtain ⟨s,h1,h2,h3,h4,h5⟩:=h.ex
 refine (aTake h1 h2 h3 fun i _=>.inr (few_keys h3 h5)).mono ?_
 rintro e w' ⟨O',hmv,⟨i,hi,ht,hl,rfl,hj⟩ | ⟨ha,rfl,hj⟩⟩
 ·obtain ⟨hr,hn⟩:=h1.moves hmv h2
  refine ⟨O',hmv,.inl ⟨i,hi,by rw [<- h4];exact ht,fun j hj=>by rw [<- h4];exact hl j hj,rfl,⟨_,hr,hn,hj,fun j=>?_,keys_put h5 (by have:=h1.cnt;omega)⟩⟩⟩
  rw [tk_put h3 (own_div h1 hi)]
  unfold setT
  split
  ·rfl
  ·exact h4 j
 ·obtain ⟨hr,hn⟩:=h1.moves hmv h2
  exact ⟨O',hmv,.inr ⟨fun j hj=>by rw [<- h4];exact ha j hj,rfl,⟨s,hr,hn,hj,h4,h5⟩⟩⟩
theorem Alc.give (h:Alc S G w m fi n O T (k+2)) (i:Nat) (hi:i<n):Calls Tryz.prog 48 #[.pointer (some ⟨m,0,none⟩),.int .i64 (i:Int)] w fun e w'=>∃O',Sh.Moves O w O' w'/\e=.returned (.int .i64 (if T i=true then 0 else 9))/\Alc S G w' m fi n O' (setT T i false) k:=by
 obtain ⟨s,h1,h2,h3,h4,h5⟩:=h.ex
 cases ht:T i with
 | true =>
  refine (aGive h1 h2 h3 i hi (by rw [h4];exact ht) (.inr (few_keys h3 h5))).mono ?_
  rintro e w' ⟨O',rfl,hj,hmv⟩
  obtain ⟨hr,hn⟩:=h1.moves hmv h2
  refine ⟨O',hmv,by simp,⟨_,hr,hn,hj,fun j=>?_,keys_put h5 (by have:=h1.cnt;omega)⟩⟩
  rw [tk_put h3 (own_div h1 hi)]
  unfold setT
  split
  ·rfl
  ·exact h4 j
 | false =>
  refine (aGive_free h1 h2 h3 i hi (by rw [h4];exact ht)).mono ?_
  rintro e w' ⟨O',rfl,hj,hmv⟩
  obtain ⟨hr,hn⟩:=h1.moves hmv h2
  refine ⟨O',hmv,by simp,⟨s,hr,hn,hj,fun j=>?_,h5⟩⟩
  rw [h4]
  unfold setT
  split
  ·rename_i e;rw [e];exact ht
  ·rfl
theorem Alc.give_no (h:Alc S G w m fi n O T k) (i:Int) (hi:i<0\/(n:Int)<=i):Calls Tryz.prog 48 #[.pointer (some ⟨m,0,none⟩),.int .i64 i] w fun e w'=>e=.returned (.int .i64 1)/\w=w':=by
 obtain ⟨s,h1,_⟩:=h.ex
 exact aGive_no h1 i hi
def cntT (T:Nat->Bool):Nat->Nat
 | 0=>0
 | j+1=>cntT T j+if T j=true then 1 else 0
theorem cntA_T {f:Nat->Sh.Bs} (h:∀j,tkA f fi j=T j):∀j,cntA f fi j=cntT T j
 | 0=>rfl
 | j+1=>by unfold cntA cntT;rw [cntA_T h j,h]
theorem Alc.free (h:Alc S G w m fi n O T (k+10)):Calls Tryz.prog 54 #[.pointer (some ⟨m,0,none⟩)] w fun e w'=>∃O',Sh.Moves O w O' w'/\e=.returned (.tuple #[.int .i64 ((n-cntT T n:Nat):Int),.int .i64 0])/\Alc S G w' m fi n O' T k:=by
 obtain ⟨s,h1,h2,h3,h4,h5⟩:=h.ex
 refine (aFree h1 h2 h3).mono ?_
 rintro e w' ⟨O',rfl,hj,hmv⟩
 obtain ⟨hr,hn⟩:=h1.moves hmv h2
 exact ⟨O',hmv,by rw [cntA_T h4],⟨s,hr,hn,hj,h4,h5⟩⟩
theorem Alc.count (h:Alc S G w m fi n O T k):Calls Tryz.prog 56 #[.pointer (some ⟨m,0,none⟩)] w fun e w'=>e=.returned (.int .i64 (n:Int))/\w=w':=by
 obtain ⟨s,h1,_⟩:=h.ex
 exact aCount h1.toAlM
end
open Go.Proofs.YtcnjpmcelihknaaGreatDoor.U (All10)
section
variable {S:StoK} {G:Jg} {w w':World} {O O':Nat->Prop} {s:Js} {k k' m fi n:Nat} {T:Nat->Bool}
theorem Alc.take_at (h:Alc S G w m fi n O T (k+10)) (i:Nat) (hi:i<n) (ht:T i=false) (hl:∀j,j<i->T j=true):Calls Tryz.prog 47 #[.pointer (some ⟨m,0,none⟩)] w fun e w'=>∃O',Sh.Moves O w O' w'/\e=.returned (.tuple #[.int .i64 (i:Int),.int .i64 0])/\Alc S G w' m fi n O' (setT T i true) k:=by
 refine h.take.mono ?_
 rintro e w' ⟨O',hmv,⟨i2,hi2,ht2,hl2,rfl,ha⟩ | ⟨ha,_⟩⟩
 ·obtain rfl:i2=i:=by
   rcases Nat.lt_trichotomy i2 i with h | h | h
   ·rw [hl i2 h] at ht2;cases ht2
   ·exact h
   ·rw [hl2 i h] at ht;cases ht
  exact ⟨O',hmv,rfl,ha⟩
 ·rw [ha i hi] at ht;cases ht
theorem Alc.take_full (h:Alc S G w m fi n O T (k+10)) (ht:∀j,j<n->T j=true):Calls Tryz.prog 47 #[.pointer (some ⟨m,0,none⟩)] w fun e w'=>∃O',Sh.Moves O w O' w'/\e=.returned (.tuple #[.int .i64 0,.int .i64 27])/\Alc S G w' m fi n O' T k:=by
 refine h.take.mono ?_
 rintro e w' ⟨O',hmv,⟨i2,hi2,ht2,hl2,rfl,ha⟩ | ⟨_,rfl,ha⟩⟩
 ·rw [ht i2 hi2] at ht2;cases ht2
 ·exact ⟨O',hmv,rfl,ha⟩
theorem bit_noughts (i:Nat):bitB Sh.noughts i=false:=by
 unfold bitB Sh.noughts
 have e:(List.replicate 128 0).getD (i / 8) 0=0:=by
  rw [List.getD_eq_getElem?_getD,List.getElem?_replicate]
  split<;>rfl
 rw [e,Nat.zero_div];rfl
theorem begun_free {St:Nat} (hs:s.R=[]) (hf:∀j,j<3*St-28->s.f j=Sh.noughts) (fi:Nat) {j:Nat} (hj:fi+j / 1024<3*St-28):tkA s.look fi j=false:=by
 unfold tkA Js.look
 rw [hs,over_nil,hf _ hj]
 exact bit_noughts _
theorem mine_at {St b:Nat} (hn:S.n=3*St) (hfi:G.fi=3*St-28) (hle:G.le=28):mine S G b↔b<3*St-28:=by
 unfold mine
 rw [hn,hfi,hle];omega
theorem DiskQ.grown {q:Nat} (h:DiskQ S G w q O s k) (hb:Below w.heap.size w w'):DiskQ S G w' q O s k:=by
 obtain ⟨p,hr⟩:=h.row
 exact ⟨⟨p,(hb.block _ (lt_of_block hr)).trans hr⟩,h.jou.grown hb,h.nq⟩
theorem DiskQ.c2 {q:Nat} (h:DiskQ S G w q O s k):w.cell? ⟨q,2,none⟩=some (.pointer (some ⟨G.p,0,none⟩)):=by
 obtain ⟨p,hr⟩:=h.row
 exact cell_of_row _ _ 2 _ _ _ hr
theorem open_alc (hs:s.R=[]) (hj:Jou S G w O s (k+10)) (fi n:Nat) (hn:1<=n/\n<=4096) (hown:∀i,i<(n-1) / 1024+1->mine S G (fi+i)) :
  Calls Tryz.prog 46 #[.pointer (some ⟨G.p,0,none⟩),.int .i64 (fi:Int),.int .i64 (n:Int)] w fun e w'=>∃(m:Nat) (O':Nat->Prop),e=.returned (.tuple #[.pointer (some ⟨m,0,none⟩),.int .i64 0])/\Alc S G w' m fi n O' (tkA s.look fi) k/\Sh.Moves O w O' w'/\w.heap.size<=m:=by
 refine (aOpen hj fi n hn hown).mono ?_
 rintro e w' ⟨m,O',rfl,hr,hnm,hj',hmv,hm⟩
 exact ⟨m,O',rfl,⟨s,hr,hnm,hj',fun _=>rfl,fun z hz=>by rw [hs] at hz;exact absurd hz (by simp)⟩,hmv,hm⟩
end
set_option maxRecDepth 20000 in
set_option maxHeartbeats 4000000 in
theorem lives12 {w:World} (hA:All10 w):Calls Tryz.prog 45 #[] w fun e w'=>e=.returned (.bool true)/\Below w.heap.size w w':=by
 have HBG:=hid (begin12 hA 14 (by decide) (by decide))
 have HB2:=hid (fun w=>aBlocks 1025 w (by decide) (by decide))
 clear hA
 unfold BegunD at HBG
 go_enter Tryz.func45,Tryz.ntmps45
 go_wp2_with fail
 refine HBG.out.mono ?_
 rintro e w1 ⟨S,G,q,O,s,rfl,hd,hn,hfi,hle,hSB,hSW,hsR,hsf,hwq,hb⟩
 have c2:=hd.c2
 have HS:=hid (And.intro hSB (And.intro hSW hb))
 have hown:∀i,i<(3-1) / 1024+1->mine S G (2+i):=fun i hi=>(mine_at hn hfi hle).2 (by omega)
 have HO:=hid (open_alc (k:=370000) hsR (hd.jou.less (by decide)) 2 3 (by decide) hown)
 have HT:Hid (∀j,j<3->tkA s.look 2 j=false):=hid fun j hj=>begun_free hsR hsf 2 (by omega)
 clear hd hn hfi hle hSB hSW hsR hsf hwq hb hown HBG
 generalize tkA s.look 2=T at *
 go_wp2_with fail
 refine HO.out.mono ?_
 rintro e w2 ⟨m,O2,rfl,ha,_,_⟩
 have HK:=hid (ha.take_at (k:=369990) 0 (by decide) (HT.out 0 (by decide)) (fun j hj=>absurd hj (by omega)))
 clear ha HO
 go_wp2_with fail
 refine HK.out.mono ?_
 rintro e w3 ⟨O3,_,rfl,ha⟩
 have HK2:=hid (ha.take_at (k:=369980) 1 (by decide) (by simp [setT,HT.out]) (by intro j hj;(obtain rfl:j=0:=(by omega));simp [setT]))
 clear ha HK
 go_wp2_with fail
 refine HK2.out.mono ?_
 rintro e w4 ⟨O4,_,rfl,ha⟩
 have HG:=hid (ha.give (k:=369978) 0 (by decide))
 rw [if_pos (by simp [setT])] at HG
 clear ha HK2
 go_wp2_with fail
 refine HG.out.mono ?_
 rintro e w5 ⟨O5,_,rfl,ha⟩
 have HK3:=hid (ha.take_at (k:=369968) 0 (by decide) (by simp [setT]) (fun j hj=>absurd hj (by omega)))
 clear ha HG
 go_wp2_with fail
 refine HK3.out.mono ?_
 rintro e w6 ⟨O6,_,rfl,ha⟩
 have HK4:=hid (ha.take_at (k:=369958) 2 (by decide) (by simp [setT,HT.out]) (by intro j hj;(obtain rfl | rfl:j=0\/j=1:=(by omega))<;>simp [setT]))
 clear ha HK3
 go_wp2_with fail
 refine HK4.out.mono ?_
 rintro e w7 ⟨O7,_,rfl,ha⟩
 have HK5:=hid (ha.take_full (k:=369948) (by intro j hj;(obtain rfl | rfl | rfl:j=0\/j=1\/j=2:=(by omega))<;>simp [setT]))
 clear ha HK4
 go_wp2_with fail
 refine HK5.out.mono ?_
 rintro e w8 ⟨O8,_,rfl,ha⟩
 have HF:=hid (ha.free (k:=369938))
 rw [show (3-cntT (setT (setT (setT (setT (setT T 0 true) 1 true) 0 false) 0 true) 2 true) 3:Nat)=0 by simp [cntT,setT]] at HF
 clear ha HK5
 go_wp2_with fail
 refine HF.out.mono ?_
 rintro e w9 ⟨O9,_,rfl,ha⟩
 have HC:=hid ha.count
 have hbel:=ha.bel
 rw [HS.out.1,HS.out.2.1] at hbel
 have HL:=hid hbel
 clear ha HF hbel
 go_wp2_with fail
 refine HC.out.mono ?_
 rintro e w10 ⟨rfl,rfl⟩
 go_wp2_with fail
 refine (HB2.out _).mono ?_
 rintro e w10 ⟨rfl,rfl⟩
 go_wp2
 go_ret
 exact ⟨rfl,HL.out⟩
theorem refBlocks (n:Int) (w:World) (hn:n<=1000000):Calls Tryz.prog 53 #[.int .i64 n] w fun e w'=>∃k:Nat,e=.returned (.int .i64 (k:Int))/\w=w'/\n<=1024*(k:Int)/\(k=0\/1024*((k:Int)-1)<n):=by
 go_enter Tryz.func53,Tryz.ntmps53
 go_wp2
 go_loopw [3,4] (fun s3 s4 wr=>∃k:Nat,s3=.int .i64 ((k:Nat):Int)/\s4=.int .i64 ((1024*k:Nat):Int)/\k<=1000/\w=wr/\(k=0\/1024*((k:Int)-1)<n)) (fun _ s _=>(n-intOf s).toNat)
 case atStart=>exact ⟨0,rfl,rfl,by omega,rfl,.inl rfl⟩
 case round =>
  obtain ⟨k,rfl,rfl,hk,rfl,hl⟩:=hrel
  by_cases hlt:((1024*k:Nat):Int)<n
  ·have q:decide (((1024*k:Nat):Int)<n)=true:=by simpa using hlt
   have hb:1024*k<=1000000:=by omega
   have HE:Hid (1024*k+1024=1024*(k+1)):=hid (by omega)
   generalize h1:1024*k=kk at *
   go_wp2
   go_roundw
   case rel=>exact ⟨k+1,by go_num,by rw [<- HE.out];go_num,by omega,trivial,.inr (by rw [show ((k+1:Nat):Int)-1=(k:Int) from by omega];omega)⟩
   case measure=>simp [intOf];omega
  ·have q:decide (((1024*k:Nat):Int)<n)=false:=by simpa using hlt
   have HR:Hid (n<=1024*(k:Int)):=hid (by omega)
   go_wp2
   go_ret
   exact ⟨k,rfl,rfl,HR.out,hl⟩
def modN (a:Int) (n:Nat):Nat:=(a%(n:Int)).toNat
theorem modN_lt (a:Int) {n:Nat} (hn:0<n):modN a n<n:=by
 unfold modN
 have h0:0<=a%(n:Int):=Int.emod_nonneg _ (by omega)
 have h1:a%(n:Int)<n:=Int.emod_lt_of_pos _ (by omega)
 omega
theorem mod12_any (a:Int) (n:Nat) (hn:0<n) (hn2:n<=1000000) (w:World):Calls Tryz.prog 43 #[.int .i64 a,.int .i64 n] w fun e w'=>e=.returned (.int .i64 ((modN a n:Nat):Int))/\w=w':=by
 unfold modN
 have hlt:(a.tmod n).natAbs<n:=by
  rw [Int.natAbs_tmod]
  exact Nat.mod_lt _ hn
 have hem:((a%n).toNat:Int)=if a.tmod n<0 then a.tmod n+n else a.tmod n:=by
  have h0:0<=a%(n:Int):=Int.emod_nonneg _ (by omega)
  rw [Int.toNat_of_nonneg h0,Int.tmod_eq_emod]
  have h1:a%(n:Int)<n:=Int.emod_lt_of_pos _ (by omega)
  split<;>omega
 rw [hem]
 have hn0:((n:Int) == 0)=false:=by simp;omega
 have hn1:((n:Int) == -1)=false:=by simp
 by_cases h:a.tmod n<0
 ·rw [if_pos h]
  have h1:decide (a.tmod n<0)=true:=by simpa using h
  have h2:wrap64 (a.tmod n+n)=a.tmod n+n:=by
   generalize a.tmod n=t at *
   exact IntWalk.wrap64_in _ ⟨by omega,by omega⟩
  go_enter Tryz.func43,Tryz.ntmps43
  go_wp2
  go_ret
  exact ⟨by rw [<- h2];rfl,rfl⟩
 ·rw [if_neg h]
  have h1:decide (a.tmod n<0)=false:=by simpa using h
  go_enter Tryz.func43,Tryz.ntmps43
  go_wp2
  go_ret
  exact ⟨rfl,rfl⟩
def belT (T:Nat->Bool) (k i j:Nat):Bool:=if j<k then decide (j<i) else T j
theorem belT_zero {T:Nat->Bool} {k:Nat} (h:∀j,j<k->T j=false):T=belT T k 0:=by
 funext j
 unfold belT
 split
 ·rename_i hj;rw [h j hj];simp
 ·rfl
theorem belT_succ (T:Nat->Bool) {k i:Nat} (hi:i<k):setT (belT T k i) i true=belT T k (i+1):=by
 funext j
 unfold setT belT
 by_cases e:j=i
 ·rw [if_pos e,if_pos (by omega)];simp;omega
 ·rw [if_neg e]
  split
  ·congr 1
   exact propext ⟨fun h=>by omega,fun h=>by omega⟩
  ·rfl
theorem belT_at (T:Nat->Bool) {k i j:Nat} (hj:j<k):belT T k i j=decide (j<i):=if_pos hj
theorem cnt_hole (T:Nat->Bool) (k g:Nat):∀j,j<=k->cntT (setT (belT T k k) g false) j=j-if g<j then 1 else 0
 | 0,_=>by unfold cntT;split<;>rfl
 | j+1,h=>by
  unfold cntT
  rw [cnt_hole T k g j (by omega)]
  unfold setT
  by_cases e:j=g
  ·rw [if_neg (by omega),if_pos e,if_neg (by decide),if_pos (by omega)];omega
  ·rw [if_neg e,belT_at T (show j<k by omega),if_pos (show decide (j<k)=true from decide_eq_true (by omega))]
   by_cases l:g<j
   ·rw [if_pos l,if_pos (by omega)];omega
   ·rw [if_neg l,if_neg (by omega)];omega
theorem one_left (T:Nat->Bool) {k g:Nat} (hg:g<k):k-cntT (setT (belT T k k) g false) k=1:=by
 rw [cnt_hole T k g k (Nat.le_refl _),if_pos hg];omega
section
variable {S:StoK} {G:Jg} {w:World} {O:Nat->Prop} {k m fi n:Nat} {T:Nat->Bool}
theorem Alc.lts (h:Alc S G w m fi n O T k):∀b,O b->b<w.heap.size:=by obtain ⟨s,_,_,h3,_⟩:=h.ex;exact h3.lt
theorem Alc.mlt (h:Alc S G w m fi n O T k):m<w.heap.size:=by obtain ⟨s,h1,_⟩:=h.ex;exact h1.lt
end
theorem info_bool1:(Tryz.prog.info? 4).map (fun i=>(i.zero,i.size,i.bytes))=some (some (.bool false),1,1):=by kernel_rfl
structure Bl (w:World) (g k:Nat) (T:Nat->Bool):Prop where
 lt:g<w.heap.size
 at_:∀j,j<k->w.cell? ⟨g,j,none⟩=some (.bool (T j))
 free:∀j,j<k->w.frozen? ⟨g,j,none⟩=false
theorem own_bools {w:World} {g base n:Nat} (h:w.ownsRow base 4 1 (.slice (some ⟨g,0,none⟩) n n) n (madeCells (Value.bool false).cells (n*1)).toList):Bl w g n (fun _=>false):=by
 have e0:(madeCells (Value.bool false).cells (n*1)).toList=List.replicate (n*1) (.bool false):=toList_madeCells_one _ _
 rw [e0] at h
 obtain ⟨h1,h2⟩:=h
 rcases h2 with ⟨e,_⟩ | ⟨g',cap,cur,e,_,hh,h3,h4,h5,h6⟩
 ·cases e
 ·injection e with e1 e2 e3
  injection e1 with e1
  injection e1 with e1
  subst e1
  refine ⟨(Array.getElem?_eq_some_iff.1 hh).1,fun j hj=>?_,fun j _=>frozen_of_row _ _ j _ _ hh⟩
  rw [cell_of_row _ _ j _ _ _ hh,<- Array.getElem?_toList,<- List.getElem?_take_of_lt (show j<n*1 by omega),h6,List.getElem?_replicate,if_pos (by omega)]
theorem new_bools (w:World) (n:Nat) (hn:n<=10000):∃w',(Instr.makeSlice 79 (.int .i64 n) (.int .i64 n)).run Tryz.prog w=.ok (.slice (some ⟨w.heap.size,0,none⟩) n n) w'/\Below w.heap.size w w'/\Bl w' w.heap.size n (fun _=>false):=by
 obtain ⟨i1,ki,kz0,kz1,kz2⟩:=info_parts info_bool1
 obtain ⟨w',hrun,r1,r2⟩:=run_make_full (P:=Tryz.prog) w w.heap.size 79 4 i1 _ 1 Tryz.underlying79 ki kz0 kz1 .i64 .i64 n (by rw [kz2];omega) (by unfold maxLen;omega) (Nat.le_refl _)
 exact ⟨w',hrun,(Below.refl _ w).grown r2 (Nat.le_refl _) (fun _ h=>by cases h),own_bools r1⟩
section
variable {w w':World} {g k:Nat} {T:Nat->Bool}
theorem Bl.same (h:Bl w g k T) (hq:w'.heap[g]?=w.heap[g]?) (hs:w.heap.size<=w'.heap.size):Bl w' g k T :=
 ⟨Nat.lt_of_lt_of_le h.lt hs,fun j hj=>by rw [World.cell?_of_block (w:=w) hq];exact h.at_ j hj,fun j hj=>by rw [World.frozen?_of_block (w:=w) hq];exact h.free j hj⟩
theorem Bl.only {F:Nat->Prop} (h:Bl w g k T) (ho:Sh.Only F w w') (hg:¬F g):Bl w' g k T:=h.same (ho.block _ h.lt hg) ho.size
theorem Bl.grown (h:Bl w g k T) (hb:Below w.heap.size w w'):Bl w' g k T:=h.same (hb.block _ h.lt) hb.size
theorem Bl.alike {T':Nat->Bool} (h:Bl w g k T) (e:∀j,j<k->T j=T' j):Bl w g k T':=⟨h.lt,fun j hj=>by rw [<- e j hj];exact h.at_ j hj,h.free⟩
theorem Bl.set (h:Bl w g k T) (i:Nat) (hi:i<k) (on:Bool):Bl (w.setCell ⟨g,i,none⟩ (.bool on)) g k (setT T i on)/\Sh.Only (fun b=>b=g) w (w.setCell ⟨g,i,none⟩ (.bool on)):=by
 have ho:Sh.Only (fun b=>b=g) w (w.setCell ⟨g,i,none⟩ (.bool on)):=(Sh.Only.refl (fun b=>b=g) w).setCell (p:=⟨g,i,none⟩) (.inl rfl) _
 refine ⟨⟨Nat.lt_of_lt_of_le h.lt ho.size,fun j hj=>?_,fun j hj=>?_⟩,ho⟩
 ·unfold setT
  by_cases e:j=i
  ·subst e
   rw [if_pos rfl]
   exact World.cell?_setCell_same _ _ _ (h.at_ j hj)
  ·rw [if_neg e,World.cell?_setCell_other _ _ _ _ (fun e2=>e (congrArg Addr.off e2).symm)]
   exact h.at_ j hj
 ·rw [World.frozen?_setCell]
  exact h.free j hj
end
def allB (T:Nat->Bool):Nat->Bool
 | 0=>true
 | x+1=>allB T x && T x
theorem allB_yes {T:Nat->Bool}:∀{k:Nat},(∀j,j<k->T j=true)->allB T k=true
 | 0,_=>rfl
 | k+1,h=>by unfold allB;rw [allB_yes fun j hj=>h j (by omega),h k (by omega)];rfl
theorem allB_no {T:Nat->Bool}:∀{k i:Nat},i<k->T i=false->allB T k=false
 | k+1,i,hi,h=>by
  unfold allB
  by_cases e:i=k
  ·rw [<- e,h,Bool.and_false]
  ·rw [allB_no (by omega) h,Bool.false_and]
section
variable {S:StoK} {G:Jg} {w w':World} {O O':Nat->Prop} {k m fi n g:Nat} {T T':Nat->Bool}
structure AlcB (S:StoK) (G:Jg) (w:World) (m fi n:Nat) (O:Nat->Prop) (T:Nat->Bool) (k g nb:Nat) (T':Nat->Bool):Prop where
 alc:Alc S G w m fi n O T k
 row:Bl w g nb T'
 out:¬O g/\g≠m
theorem AlcB.moved {nb k':Nat} (h:AlcB S G w m fi n O T k g nb T') {T2:Nat->Bool} (ha:Alc S G w' m fi n O' T2 k') (hm:Sh.Moves O w O' w'):AlcB S G w' m fi n O' T2 k' g nb T' :=
 ⟨ha,h.row.only hm.1 h.out.1,fun e=>(hm.2 g e).elim h.out.1 (fun e2=>absurd h.row.lt (by omega)),h.out.2⟩
theorem AlcB.set {nb:Nat} (h:AlcB S G w m fi n O T k g nb T') (i:Nat) (hi:i<nb) (on:Bool):AlcB S G (w.setCell ⟨g,i,none⟩ (.bool on)) m fi n O T k g nb (setT T' i on):=by
 obtain ⟨h1,h2⟩:=h.row.set i hi on
 exact ⟨h.alc.only h2 (fun b hb=>by rw [hb];exact h.out),h1,h.out⟩
theorem AlcB.grown {nb:Nat} (h:AlcB S G w m fi n O T k g nb T') (hb:Below w.heap.size w w'):AlcB S G w' m fi n O T k g nb T':=⟨h.alc.grown hb,h.row.grown hb,h.out⟩
theorem AlcB.less {nb k':Nat} (h:AlcB S G w m fi n O T k g nb T') (hk:k'<=k):AlcB S G w m fi n O T k' g nb T':=⟨h.alc.less hk,h.row,h.out⟩
end
end Go.Proofs.YtcnjpmcelihknaaGreatDoor.Kj
namespace Go.Proofs.YtcnjpmcelihknaaGreatDoor.Kc
open Go.ChangeShapes Go.WideShapes Go.ChangeAt Go.RowKit Go.Maps
section
variable {H:Type} {enc:TypeId × Value->H} {W:World}
theorem cells_got {base n:Nat} {a:Addr} {xs:List Value} (h:W.cells? base a n=some xs):xs.length=n/\∀k,k<n->∃v,xs[k]?=some v/\W.cell? (a.add k)=some v:=by
 unfold World.cells? at h
 split at h
 ·have hl:xs.length=n:=by simpa using mapM_some_length h
  refine ⟨hl,fun k hk=>?_⟩
  have:=mapM_some_get h k k (by simp [hk])
  rw [List.getElem?_eq_getElem (by omega)] at this
  exact ⟨_,List.getElem?_eq_getElem (by omega),this⟩
 ·cases h
theorem int_off {m:Nat} {v:Value} {y:DataW H × List MemPlace} (h:DataW.trod enc Tryz.prog W 0 (fun _=>true) true m 3 [v]=some y):∃z:Int,v=.int .i64 z/\-9223372036854775808<=z/\z<=9223372036854775807:=by
 cases m with
 | zero=>simp [DataW.trod] at h
 | succ m =>
  simp only [DataW.trod,Tryz.underlying3] at h
  cases v<;>simp at h
  rename_i k b
  obtain ⟨⟨rfl,hw⟩,_⟩:=h
  exact ⟨b,rfl,bounds_i64 hw⟩
def I64 (z:Int):Prop:=-9223372036854775808<=z/\z<=9223372036854775807
def Ints10 (W:World) (A:Option Addr) (n:Nat) (f:Nat->Int):Prop:=n<=9223372036854775807/\(0<n->∃b off,A=some ⟨b,off,none⟩/\b<W.heap.size/\∀i,i<n->W.cell? ⟨b,off+i,none⟩=some (.int .i64 (f i))/\I64 (f i))
theorem cellsI10:Tryz.prog.cellsOf 3=1:=by kernel_rfl
theorem ints10_in {fuel n c:Nat} {A:Option Addr} {x:DataW H × List MemPlace} (h:DataW.trod enc Tryz.prog W 0 (fun _=>true) true fuel 22 [.slice A n c]=some x):∃f,Ints10 W A n f:=by
 rcases DataW.trod_slice Tryz.underlying22 h with ⟨h0,hx⟩ | ⟨a,len,cap,elems,rest,m,_,h0,hx,_,hl,hm,hlen,hel,_⟩
 ·simp only [List.cons.injEq,Value.slice.injEq,and_true] at h0
  obtain ⟨rfl,rfl,rfl⟩:=h0
  exact ⟨fun _=>0,by decide,fun h=>absurd h (by decide)⟩
 ·simp only [List.cons.injEq,Value.slice.injEq,and_true] at h0
  obtain ⟨rfl,rfl,rfl⟩:=h0
  have hcs:∀i,i<n->∃z:Int,W.cell? (a.add i)=some (.int .i64 z)/\I64 z:=by
   intro i hi
   have h1:=hel i hi
   rw [cellsI10,Nat.mul_one,List.getElem?_eq_getElem (by omega),Option.bind_eq_some_iff] at h1
   obtain ⟨cs,hcs,hy⟩:=h1
   obtain ⟨hl1,hg⟩:=cells_got hcs
   obtain ⟨v,hv,hcv⟩:=hg 0 (by decide)
   have e:cs=[v]:=by
    match cs,hl1,hv with
    | [u],_,hv=>simpa using hv
   subst e
   have e2:(a.add i).add 0=a.add i:=by unfold Addr.add;simp
   rw [e2] at hcv
   obtain ⟨z,rfl,hz⟩:=int_off hy
   exact ⟨z,hcv,hz⟩
  rcases Nat.eq_zero_or_pos n with h0 | h0
  ·exact ⟨fun _=>0,by unfold maxLen at hm;omega,fun h=>by omega⟩
  ·obtain ⟨b,off,spot⟩:=a
   obtain ⟨v,hv,_⟩:=hcs 0 h0
   have hspot:spot=none:=by simpa [Addr.add] using World.cell?_spot hv
   subst hspot
   have hblt:=World.block_lt_of_cell? W _ hv
   rw [Sh.block_of_add] at hblt
   have hz:∀i,∃v:Int,i<n->W.cell? ⟨b,off+i,none⟩=some (.int .i64 v)/\I64 v:=by
    intro i
    by_cases hi:i<n
    ·obtain ⟨v,hv,hb⟩:=hcs i hi
     rw [U.add_plain] at hv
     exact ⟨v,fun _=>⟨hv,hb⟩⟩
    ·exact ⟨0,fun h=>absurd h hi⟩
   obtain ⟨f,hf⟩:=Classical.axiomOfChoice hz
   exact ⟨f,by unfold maxLen at hm;omega,fun _=>⟨b,off,rfl,hblt,hf⟩⟩
end
end Go.Proofs.YtcnjpmcelihknaaGreatDoor.Kc
namespace Go.Proofs.YtcnjpmcelihknaaGreatDoor.U.cacheNobody
open Go.ChangeShapes Go.WideShapes Go.ChangeAt Go.RowKit
abbrev laidBoth : List (String × DataW Unit) := [("ashlar/octets.lowRests", Rows.laid_ashlar_octets_lowRests), ("ashlar/octets.highRests", Rows.laid_ashlar_octets_highRests), ("ashlar/ppl.fields", Rows.laid_ashlar_ppl_fields), ("ashlar/super.widths", Rows.laid_ashlar_super_widths)]
theorem tabs_of_laid {W:World} (h:laidMetH Tryz.prog laidBoth W):All10 W:=by
 rw [MakeChecks.laidMetH_plain _ _ _ (by kernel_rfl)] at h
 obtain ⟨ps,⟨g0,t0,cs0,f0,p0,q0,hg0,ht0,hv0,hd0,⟨g1,t1,cs1,f1,p1,q1,hg1,ht1,hv1,hd1,⟨g2,t2,cs2,f2,p2,q2,hg2,ht2,hv2,hd2,⟨g3,t3,cs3,f3,p3,q3,hg3,ht3,hv3,hd3,_,_⟩,_⟩,_⟩,_⟩,_,_⟩:=h
 obtain rfl:=Option.some.inj (gLow.symm.trans hg0)
 obtain rfl:=Option.some.inj (gHigh.symm.trans hg1)
 obtain rfl:=Option.some.inj (gFld.symm.trans hg2)
 obtain rfl:=Option.some.inj (gWid.symm.trans hg3)
 obtain rfl:=Option.some.inj (gWidType.symm.trans ht3)
 obtain rfl:=Option.some.inj (gLowType.symm.trans ht0)
 obtain rfl:=Option.some.inj (gHighType.symm.trans ht1)
 obtain rfl:=Option.some.inj (gFldType.symm.trans ht2)
 have e0:cs0.toList=(Nums.lowT.map fun (x:Nat)=>(x:Int)).map fun z=>Value.int .u32 z:=Lib.cells_of_tab Tryz.underlying216 Tryz.underlying23 cellsU32 cells16 hd0
 have e1:cs1.toList=(Nums.highT.map fun (x:Nat)=>(x:Int)).map fun z=>Value.int .u32 z:=Lib.cells_of_tab Tryz.underlying216 Tryz.underlying23 cellsU32 cells16 hd1
 have e2:=flds_val hd2
 have e3:cs3.toList=widZ.map fun z=>Value.int .i64 z:=Lib.cells_of_tab Tryz.underlying289 Tryz.underlying3 cellsInt cells8 hd3
 have wid0:∀i:Fin 8,widZ[i.val]?=some (((Go.Proofs.YtcnjpmcelihknaaGreatDoor.S.widL.getD i.val 0:Nat):Int)):=by decide
 have low:∀i:Fin 16,((Nums.lowT.map fun (x:Nat)=>(x:Int)).map fun z=>Value.int .u32 z)[i.val]?=some (.int .u32 ((Nums.low i.val:Nat):Int)):=by
  intro i
  have:i.val<Nums.lowT.length:=i.isLt
  simp [Nums.low,List.getD,List.getElem?_eq_getElem this]
 have high:∀i:Fin 16,((Nums.highT.map fun (x:Nat)=>(x:Int)).map fun z=>Value.int .u32 z)[i.val]?=some (.int .u32 ((Nums.high i.val:Nat):Int)):=by
  intro i
  have:i.val<Nums.highT.length:=i.isLt
  simp [Nums.high,List.getD,List.getElem?_eq_getElem this]
 refine ⟨⟨fun i hi=>?_,fun i hi=>?_⟩,⟨fun i hi=>?_,fun i hi=>?_⟩,fun i hi=>?_⟩
 ·have h1:=World.var?_cell hg0 hv0 i
  have h2:=low ⟨i,hi⟩
  rw [<- e0] at h2
  rw [h1]
  simpa using h2
 ·have h1:=World.var?_cell hg1 hv1 i
  have h2:=high ⟨i,hi⟩
  rw [<- e1] at h2
  rw [h1]
  simpa using h2
 ·rw [World.var?_cell hg2 hv2 (i*2)]
  have h2:cs2.toList[i*2]?=some (.int .i64 ((4+i*4:Nat):Int)):=by
   rw [e2]
   obtain rfl | rfl | rfl:i=0\/i=1\/i=2:=by omega
   all_goals rfl
  simpa using h2
 ·rw [World.var?_cell hg2 hv2 (i*2+1)]
  have h2:cs2.toList[i*2+1]?=some (.int .u64 ((cntL.getD i 0:Nat):Int)):=by
   rw [e2]
   obtain rfl | rfl | rfl:i=0\/i=1\/i=2:=by omega
   all_goals rfl
  simpa using h2
 ·have h1:=World.var?_cell hg3 hv3 i
  have h2:(widZ.map fun z=>Value.int .i64 z)[i]?=some (.int .i64 ((Go.Proofs.YtcnjpmcelihknaaGreatDoor.S.widL.getD i 0:Nat):Int)):=by rw [List.getElem?_map,wid0 ⟨i,hi⟩];rfl
  rw [<- e3] at h2
  rw [h1]
  simpa using h2
end Go.Proofs.YtcnjpmcelihknaaGreatDoor.U.cacheNobody
