/-
  What the statement's proof rests on, part 8.
  Conditions: each theorem's own.
-/
import Derived.Test.YtcnjpmcelihknaaGreatDoorV04
import Derived.Lib.BitFns
import Derived.Lib.MinMax
import Derived.Deep.LoopGhost
open Go.Lib (hid)
namespace Go.Proofs.YtcnjpmcelihknaaGreatDoor
open Go.RowKit
theorem pop_t1 (x:Nat) (h:x<Lib.pop8tab.size):x<256:=by
 rw [Lib.pop8tab_size] at h;exact h
theorem pop_t2 (x:Nat) (h:x<Lib.pop8tab.size):Lib.pop8 (x:Int)=((Lib.pop8tab[x].toNat:Nat):Int):=by
 unfold Lib.pop8
 rw [Int.toNat_natCast,getElem?_pos Lib.pop8tab x h]
 rfl
theorem pop_get (x:Nat) (h:x<Lib.pop8tab.size):wrap64 ((Lib.pop8tab[x].toNat:Nat):Int)=((Lib.onesCount x:Nat):Int):=by
 rw [<- pop_t2 x h]
 have e:=Lib.pop8_eq ⟨x,pop_t1 x h⟩
 have l:=Lib.onesCount_le8 ⟨x,pop_t1 x h⟩
 simp only at e l
 rw [e]
 generalize Lib.onesCount x=y at *
 exact IntWalk.wrap64_in _ ⟨by omega,by omega⟩
set_option maxRecDepth 100000 in
set_option maxHeartbeats 400000 in
theorem ones_any (x:Nat) (w:World) (h:x<256) :
  Calls Tryz.prog 172 #[.int .u8 x] w fun e w'=>e=.returned (.int .i64 (Lib.onesCount x))/\w=w':=by
 go_enter Tryz.func172,Tryz.ntmps172
 go_wp2_with fail
 rw [pop_get x (by assumption)]
 go_ret
 exact ⟨rfl,rfl⟩
def cnt (l:List Nat):Nat->Nat
 | 0=>0
 | m+1=>cnt l m+if bitB l m=true then 1 else 0
theorem cnt_le (l:List Nat) (m:Nat):cnt l m<=m:=by
 induction m with
 | zero=>exact Nat.le_refl _
 | succ m ih=>rw [cnt];split<;>omega
theorem ones_eq:∀x:Fin 256,Lib.onesCount x.val=x.val / 2 ^ 0%2+x.val / 2 ^ 1%2+x.val / 2 ^ 2%2+x.val / 2 ^ 3%2+x.val / 2 ^ 4%2+x.val / 2 ^ 5%2+x.val / 2 ^ 6%2+x.val / 2 ^ 7%2:=by decide +kernel
theorem bit_val (l:List Nat) (k j:Nat) (hj:j<8):(if bitB l (8*k+j)=true then 1 else 0)=l.getD k 0 / 2 ^ j%2:=by
 unfold bitB
 rw [show (8*k+j) / 8=k by omega,show (8*k+j)%8=j by omega]
 have h:l.getD k 0 / 2 ^ j%2=0\/l.getD k 0 / 2 ^ j%2=1:=by omega
 rcases h with h | h<;>rw [h]<;>rfl
theorem cnt_step (l:List Nat) (k j:Nat) (hj:j<8):cnt l (8*k+j+1)=cnt l (8*k+j)+l.getD k 0 / 2 ^ j%2:=by
 rw [<- bit_val l k j hj];rfl
theorem eight {f g:Nat->Nat} (a:Nat) (h:∀j,j<8->f (a+j+1)=f (a+j)+g j):f (a+8)=f a+(g 0+g 1+g 2+g 3+g 4+g 5+g 6+g 7):=by
 have h0:=h 0 (by decide);have h1:=h 1 (by decide);have h2:=h 2 (by decide);have h3:=h 3 (by decide)
 have h4:=h 4 (by decide);have h5:=h 5 (by decide);have h6:=h 6 (by decide);have h7:=h 7 (by decide)
 simp only [Nat.add_zero,Nat.add_assoc,Nat.reduceAdd] at h0 h1 h2 h3 h4 h5 h6 h7 ⊢
 omega
theorem cnt_byte (l:List Nat) (k:Nat) (hl:Small l):cnt l (8*(k+1))=cnt l (8*k)+Lib.onesCount (l.getD k 0):=by
 have h:=ones_eq ⟨l.getD k 0,hl.get k⟩
 simp only at h
 rw [h]
 exact eight (f:=cnt l) (g:=fun j=>l.getD k 0 / 2 ^ j%2) (8*k) (fun j hj=>cnt_step l k j hj)
theorem cnt_zero (l:List Nat):cnt l 0=0:=rfl
theorem cnt_succ (l:List Nat) (m:Nat):cnt l (m+1)=cnt l m+if bitB l m=true then 1 else 0:=rfl
attribute [irreducible] cnt
theorem tdiv_neg8 (s:Int) (h:s<0):s.tdiv 8<=0:=by
 obtain ⟨p,rfl⟩:∃p:Int,s=-p:=⟨-s,by omega⟩
 rw [Int.neg_tdiv,Int.tdiv_eq_ediv_of_nonneg (by omega)]
 omega
theorem tmod_neg8 (s:Int) (h:s<0):s.tmod 8<=0:=by
 obtain ⟨p,rfl⟩:∃p:Int,s=-p:=⟨-s,by omega⟩
 rw [Int.neg_tmod,Int.tmod_eq_emod_of_nonneg (by omega)]
 omega
set_option maxHeartbeats 400000 in
theorem count_neg (A:Option Addr) (n c:Nat) (stop:Int) (w:World) (hn:n<=140737488351232) (h:stop<0) (hlo:-9223372036854775808<=stop) :
  Calls Tryz.prog 111 #[.slice A n c,.int .i64 stop] w fun e w'=>e=.returned (.int .i64 0)/\w=w':=by
 have hmin:=hid (show min stop (8*(n:Int))=stop by omega)
 go_enter Tryz.func111,Tryz.ntmps111
 go_wp2_with fail
 rw [hmin.out]
 have hq:stop.tdiv 8<=0:=tdiv_neg8 stop h
 have hq2:stop.tmod 8<=0:=tmod_neg8 stop h
 generalize stop.tdiv 8=q at *
 go_loop [5,15] (fun s i=>s=.int .i64 0/\i=.int .i64 0) (fun _ _=>0)
 case atStart=>exact ⟨rfl,rfl⟩
 case round =>
  obtain ⟨rfl,rfl⟩:=hrel
  go_wp2
  generalize stop.tmod 8=r at *
  go_loop [5,28] (fun s i=>s=.int .i64 0/\i=.int .i64 0) (fun _ _=>0)
  case atStart=>exact ⟨rfl,rfl⟩
  case round =>
   obtain ⟨rfl,rfl⟩:=hrel
   go_wp2
   go_ret
   exact ⟨rfl,rfl⟩
set_option maxHeartbeats 400000 in
theorem count_any (A:Option Addr) (n c B m:Nat) (l:List Nat) (stop:Int) (w:World) (hl:Small l) (hr:Reads w B A n (bts l)) (hn:n<=140737488351232) (hm:min stop (8*(n:Int))=(m:Int)) :
  Calls Tryz.prog 111 #[.slice A n c,.int .i64 stop] w fun e w'=>e=.returned (.int .i64 (cnt l m))/\w=w':=by
 have hm8:m<=8*n:=by omega
 go_enter Tryz.func111,Tryz.ntmps111
 go_wp2
 clear hm
 go_loop [5,15] (fun s5 s15=>∃k:Nat,k<=m / 8/\s15=.int .i64 k/\s5=.int .i64 (cnt l (8*k))) (fun _ i=>m / 8-(intOf i).toNat)
 case atStart=>exact ⟨0,Nat.zero_le _,rfl,by rw [Nat.mul_zero,cnt_zero];rfl⟩
 case round =>
  obtain ⟨k,hk,rfl,rfl⟩:=hrel
  by_cases hlt:k<m / 8
  ·obtain ⟨ad,rfl,hb,hc⟩:=hr.byte (k:=k) (by omega)
   have hx:=hl.get k
   have hst:=hid (cnt_byte l k hl)
   have hle:=cnt_le l (8*k)
   have ho:=Lib.onesCount_le8 ⟨l.getD k 0,hx⟩
   simp only at ho
   have hcall:=ones_any (l.getD k 0) w hx
   generalize Lib.onesCount (l.getD k 0)=o at *
   have Hcall:=hid hcall
   clear hcall
   generalize l.getD k 0=x at *
   generalize cnt l (8*k)=y at *
   go_wp2_with (go_at_call 172;refine Hcall.out.mono ?_;rintro e w' ⟨rfl,rfl⟩)
   go_round
   case rel=>exact ⟨k+1,by omega,by go_num,by rw [hst.out];go_num⟩
   case measure=>simp [intOf];omega
  ·obtain rfl:k=m / 8:=by omega
   have hle:=cnt_le l (8*(m / 8))
   have hle2:=cnt_le l m
   have hfin:=hid (show 8*(m / 8)+m%8=m by omega)
   have hmod:=Nat.mod_lt m (show 8>0 by decide)
   go_wp2
   generalize hY:cnt l (8*(m / 8))=Y at *
   have HY:=hid hY
   clear hY
   go_loop [5,28] (fun s5 s28=>∃k y:Nat,k<=m%8/\s28=.int .i64 k/\s5=.int .i64 y/\y+cnt l (m-k)=Y+cnt l m) (fun _ i=>m%8-(intOf i).toNat)
   case atStart=>exact ⟨0,Y,Nat.zero_le _,rfl,rfl,rfl⟩
   case round =>
    obtain ⟨k,y,hk2,rfl,rfl,hy⟩:=hrel
    by_cases hlt2:k<m%8
    ·obtain ⟨j,hj⟩:∃j,m=j+k+1:=⟨m-k-1,by omega⟩
     have hstep:cnt l (m-k)=cnt l (m-(k+1))+if bitB l j=true then 1 else 0:=by
      rw [show m-k=j+1 by omega,show m-(k+1)=j by omega,cnt_succ]
     have hyb:y<=Y+cnt l m:=by omega
     have Hy:=hid hy
     have Hst:=hid hstep
     have ht:((m:Int)-1-(k:Int)).toNat=j:=by omega
     have Ht:=hid ht
     clear hy hstep ht hj
     have hcall:=has_int A n c B ((m:Int)-1-(k:Int)) l w hl hr hn (by omega) (by omega)
     rw [Ht.out] at hcall
     cases hbit:bitB l j
     ·have hz:Hid (cnt l (m-k)=cnt l (m-(k+1))):=hid (by rw [Hst.out,hbit];rfl)
      rw [hbit] at hcall
      have Hcall:=hid hcall
      clear hcall hbit Hst
      go_wp2_with (go_at_call 106;refine Hcall.out.mono ?_;rintro e w' ⟨rfl,rfl⟩)
      go_round
      case rel=>exact ⟨k+1,y,by omega,by go_num,rfl,by rw [<- hz.out];exact Hy.out⟩
      case measure=>simp [intOf];omega
     ·have hz:Hid (cnt l (m-k)=cnt l (m-(k+1))+1):=hid (by rw [Hst.out,hbit];rfl)
      rw [hbit] at hcall
      have Hcall:=hid hcall
      clear hcall hbit Hst
      go_wp2_with (go_at_call 106;refine Hcall.out.mono ?_;rintro e w' ⟨rfl,rfl⟩)
      go_round
      case rel=>exact ⟨k+1,y+1,by omega,by go_num,by go_num,by have h1:=Hy.out;have h2:=hz.out;omega⟩
      case measure=>simp [intOf];omega
    ·have hk3:k=m%8:=by omega
     have hyf:Hid (y=cnt l m):=hid (by
      have h1:=HY.out
      rw [show m-k=8*(m / 8) by omega] at hy
      omega)
     clear hy hk3
     go_wp2
     go_ret
     exact ⟨by rw [hyf.out];rfl,rfl⟩
def FreeIs (l:List Nat) (start stop:Int) (r:Option Nat):Prop :=
 match r with
 | some i=>(i:Int)<stop/\i<8*l.length/\start<=i/\bitB l i=false/\∀j:Nat,j<i->start<=j->bitB l j=true
 | none=>∀j:Nat,j<8*l.length->(j:Int)<stop->start<=j->bitB l j=true
def Found (l:List Nat) (start stop:Int) (w:World) (e:Ending) (w':World):Prop :=
 ∃r:Option Nat,FreeIs l start stop r/\e=.returned (.tuple #[.int .i64 ((r.getD 0:Nat):Int),.bool r.isSome])/\w=w'
set_option maxHeartbeats 800000 in
theorem free_any (A:Option Addr) (n c B F:Nat) (l:List Nat) (start stop:Int) (w:World) (hl:Small l) (hr:Reads w B A n (bts l)) (hn:n<=140737488351232)
  (hF:max start 0 / 8=(F:Int)) (hlo:-9223372036854775808<=start) (hhi:start<=9223372036854775807) (hlo2:-9223372036854775808<=stop) (hhi2:stop<=9223372036854775807) :
  Calls Tryz.prog 102 #[.slice A n c,.int .i64 start,.int .i64 stop] w (Found l start stop w):=by
 have hFb:F<=1152921504606846975:=by omega
 have hpos:0<=max start 0:=by omega
 have hpos2:max start 0<=9223372036854775807:=by omega
 have hlow:Hid (∀j:Nat,j<8*F->(j:Int)<start):=hid (by intro j hj;omega)
 have hlen:=hid hr.len
 go_enter Tryz.func102,Tryz.ntmps102
 go_wp2
 go_step3
 go_wp2
 go_step3
 go_wp2
 rw [hF]
 clear hF hpos hpos2
 go_loopg [9,10,21] (n-F) (fun g s9 s10 s21 wr=>∃k:Nat,k+g=n-F/\s21=.int .i64 k/\s9=.int .i64 0/\s10=.bool false/\Aside (∀j:Nat,j<8*(F+k)->(j:Int)<stop->start<=j->bitB l j=true)/\w=wr)
 case atStart=>exact ⟨0,by omega,rfl,rfl,rfl,fun j hj _ h2=>absurd (hlow.out j (by omega)) (by omega),rfl⟩
 case round =>
  obtain ⟨k,hkg,rfl,rfl,rfl,HA,rfl⟩:=hrel
  cases gk with
  | zero =>
   have ht:¬((k:Int)<(n:Int)-(F:Int)):=by omega
   have hfin:Hid (FreeIs l start stop none):=hid fun j hj=>HA.out j (by have:=hlen.out;omega)
   go_wp2
   try rw [Exit.noGoto_ret]
   go_ret2
   exact ⟨none,hfin.out,rfl,rfl⟩
  | succ g =>
   have ht:(k:Int)<(n:Int)-(F:Int):=by omega
   go_wp2
   go_loopg [9,10,24] 8 (fun g2 s9 s10 s24 wr=>∃s:Nat,s+g2=8/\s24=.int .i64 s/\s9=.int .i64 0/\s10=.bool false/\Aside (∀j:Nat,j<8*(F+k)+s->(j:Int)<stop->start<=j->bitB l j=true)/\w=wr)
   case atStart=>exact ⟨0,by omega,rfl,rfl,rfl,HA,rfl⟩
   case round =>
    obtain ⟨s,hsg,rfl,rfl,rfl,HB,rfl⟩:=hrel
    cases gk with
    | zero =>
     have ht2:¬((s:Int)<8):=by omega
     go_wp2
     go_roundg g
     case measure=>omega
     case rel=>exact ⟨k+1,by omega,by go_num,rfl,rfl,fun j hj=>HB.out j (by omega),rfl⟩
    | succ g2 =>
     have ht2:(s:Int)<8:=by omega
     have hlast:Hid (∀j:Nat,j<8*(F+k)+(s+1)->j<8*(F+k)+s\/j=8*(F+k)+s):=hid fun j hj=>by omega
     by_cases h1:stop<=8*((F:Int)+(k:Int))+(s:Int)
     ·have hfin:Hid (FreeIs l start stop none):=hid fun j _ h2=>HB.out j (by omega) h2
      go_wp2
      try rw [Exit.noGoto_ret]
      go_ret2
      exact ⟨none,hfin.out,rfl,rfl⟩
     ·by_cases h2:start<=8*((F:Int)+(k:Int))+(s:Int)
      ·have hd:decide (start<=8*((F:Int)+(k:Int))+(s:Int))=true:=by simpa using h2
       have hcall:=has_int A n c B (8*((F:Int)+(k:Int))+(s:Int)) l w hl hr hn (by omega) (by omega)
       rw [show (8*((F:Int)+(k:Int))+(s:Int)).toNat=8*(F+k)+s by omega] at hcall
       cases hbit:bitB l (8*(F+k)+s)
       ·have hfin:Hid (FreeIs l start stop (some (8*(F+k)+s))):=hid ⟨by omega,by have:=hlen.out;omega,by omega,hbit,fun j hj h3=>HB.out j hj (by omega) h3⟩
        rw [hbit] at hcall
        have Hcall:=hid hcall
        clear hcall hbit
        go_wp2_with (go_at_call 106;refine Hcall.out.mono ?_;rintro e w' ⟨rfl,rfl⟩)
        try rw [Exit.noGoto_ret]
        go_ret2
        exact ⟨some (8*(F+k)+s),hfin.out,by go_num,rfl⟩
       ·have hnext:Aside (∀j:Nat,j<8*(F+k)+(s+1)->(j:Int)<stop->start<=j->bitB l j=true):=fun j hj h3 h4=>by
         rcases hlast.out j hj with h | h
         ·exact HB.out j h h3 h4
         ·rw [h];exact hbit
        rw [hbit] at hcall
        have Hcall:=hid hcall
        clear hcall hbit
        go_wp2_with (go_at_call 106;refine Hcall.out.mono ?_;rintro e w' ⟨rfl,rfl⟩)
        go_roundg g2
        case measure=>omega
        case rel=>exact ⟨s+1,by omega,by go_num,rfl,rfl,hnext,rfl⟩
      ·have hd:decide (start<=8*((F:Int)+(k:Int))+(s:Int))=false:=by simpa using h2
       have hnext:Aside (∀j:Nat,j<8*(F+k)+(s+1)->(j:Int)<stop->start<=j->bitB l j=true):=fun j hj h3 h4=>by
        rcases hlast.out j hj with h | h
        ·exact HB.out j h h3 h4
        ·omega
       go_wp2
       go_roundg g2
       case measure=>omega
       case rel=>exact ⟨s+1,by omega,by go_num,rfl,rfl,hnext,rfl⟩
theorem bit_test (l:List Nat) (i:Nat):bitB l i=(l.getD (i / 8) 0).testBit (i%8):=by
 unfold bitB
 rw [Nat.testBit_eq_decide_div_mod_eq]
 generalize l.getD (i / 8) 0 / 2 ^ (i%8)%2=y
 rw [Bool.eq_iff_iff,beq_iff_eq,decide_eq_true_iff]
theorem byte_rest:∀k m:Fin 8,(255-2 ^ m.val).testBit k.val=decide (m.val≠k.val):=by decide
theorem withOn_get (l:List Nat) (i k:Nat) (on:Bool) (h:i / 8<l.length):(withL l i on).getD k 0=if k=i / 8 then (if on then l.getD (i / 8) 0 ||| 2 ^ (i%8) else l.getD (i / 8) 0 &&& (255-2 ^ (i%8))) else l.getD k 0:=by
 unfold withL
 simp only [List.getD]
 rw [List.getElem?_set]
 by_cases hk:i / 8=k
 ·subst hk;simp [h]
 ·rw [if_neg hk,if_neg (fun e=>hk e.symm)]
theorem withOn_bit (l:List Nat) (i j:Nat) (on:Bool) (h:i / 8<l.length):bitB (withL l i on) j=if j=i then on else bitB l j:=by
 rw [bit_test,bit_test,withOn_get l i _ on h]
 by_cases hk:j / 8=i / 8
 ·rw [if_pos hk,hk]
  cases on
  ·simp only [Bool.false_eq_true,if_false]
   rw [Nat.testBit_and,byte_rest ⟨j%8,Nat.mod_lt _ (by decide)⟩ ⟨i%8,Nat.mod_lt _ (by decide)⟩]
   simp only
   by_cases hm:i%8=j%8
   ·rw [if_pos (by omega)];simp [hm]
   ·rw [if_neg (by intro e;exact hm (by rw [e]))];simp [hm]
  ·simp only [if_true]
   rw [Nat.testBit_or,Nat.testBit_two_pow]
   by_cases hm:i%8=j%8
   ·rw [if_pos (by omega)];simp [hm]
   ·rw [if_neg (by intro e;exact hm (by rw [e]))];simp [hm]
 ·rw [if_neg hk,if_neg (by intro e;exact hk (by rw [e]))]
theorem withOn_small {l:List Nat} (h:Small l) (i:Nat) (on:Bool):Small (withL l i on):=by
 intro x hx
 unfold withL at hx
 rcases List.mem_or_eq_of_mem_set hx with h1 | h1
 ·exact h x h1
 ·rw [h1]
  have h2:=h.get (i / 8)
  have h3:2 ^ (i%8)<2 ^ 8:=Nat.pow_lt_pow_right (by decide) (Nat.mod_lt _ (by decide))
  cases on
  ·exact Nat.lt_of_le_of_lt Nat.and_le_left h2
  ·exact Nat.or_lt_two_pow (n:=8) h2 h3
def bbs (f:Nat->Bool) (m:Nat):List Value:=(List.range m).map fun i=>Value.bool (f i)
theorem bbs_succ (f:Nat->Bool) (m:Nat):bbs f (m+1)=bbs f m++[.bool (f m)]:=by simp [bbs,List.range_succ]
def BitsMade (f:Nat->Bool) (m:Nat) (w:World) (e:Ending) (w':World):Prop:=∃v,e=.returned v/\w'.ownsRow w.heap.size 4 1 v m (bbs f m)/\Below w.heap.size w w'
theorem bit_value (l:List Nat) (k j:Nat) (hj:j<8):(((l.getD k 0 / 2 ^ j:Nat):Int)%2 == 1)=bitB l (8*k+j):=by
 unfold bitB
 rw [show (8*k+j) / 8=k by omega,show (8*k+j)%8=j by omega]
 generalize l.getD k 0 / 2 ^ j=y
 rw [Bool.eq_iff_iff,beq_iff_eq,beq_iff_eq]
 omega
theorem half (y j:Nat):y / 2 ^ (j+1)=y / 2 ^ j / 2:=by rw [Nat.pow_succ,Nat.div_div_eq_div_mul]
set_option maxRecDepth 20000 in
set_option maxHeartbeats 800000 in
theorem refBits_any (A:Option Addr) (n c B:Nat) (l:List Nat) (w:World) (hl:Small l) (hr:Reads w B A n (bts l)) (hB:B<=w.heap.size) (hn:n<=65536) :
  Calls Tryz.prog 51 #[.slice A n c] w (BitsMade (bitB l) (8*n) w):=by
 obtain ⟨i0,hi,hz0,hz1,hz2⟩:=info_parts info_bool
 go_enter Tryz.func51,Tryz.ntmps51
 go_wp2
 generalize hgs:w.heap.size=g at *
 have Hgs:=hid hgs
 clear hgs
 go_loopw [3,4] (fun s3 s4 wr=>∃k:Nat,k<=n/\s4=.int .i64 k/\wr.ownsRow g 4 1 s3 (8*k) (bbs (bitB l) (8*k))/\Below g w wr/\g<=wr.heap.size) (fun _ i _=>n-(intOf i).toNat)
 case atStart=>exact ⟨0,Nat.zero_le _,rfl,by simpa [bbs] using World.ownsRow_nil w g 4 1,Below.refl _ _,by rw [Hgs.out];exact Nat.le_refl _⟩
 case round =>
  obtain ⟨k,hk,rfl,hown,hbel,hsz⟩:=hrel
  by_cases hlt:k<n
  ·have hr2:=(hr.more hB).below hbel
   obtain ⟨ad,rfl,hb,hc⟩:=hr2.byte hlt
   have hy0:=hl.get k
   have hbv:=hid (fun j (hj:j<8)=>bit_value l k j hj)
   clear hr2
   generalize l.getD k 0=y at *
   obtain ⟨wo,rfl⟩:∃wo:World,wo=wr:=⟨_,rfl⟩
   go_wp2
   go_loopw [3,5,6] (fun s3 s5 s6 wr=>∃j:Nat,j<=8/\s6=.int .i64 j/\s5=.int .i64 ((y / 2 ^ j:Nat):Int)/\wr.ownsRow g 4 1 s3 (8*k+j) (bbs (bitB l) (8*k+j))/\Below g w wr/\g<=wr.heap.size) (fun _ _ j _=>8-(intOf j).toNat)
   case atStart=>exact ⟨0,by omega,rfl,by simp,hown,hbel,hsz⟩
   case round =>
    obtain ⟨j,hj,rfl,rfl,hown1,hbel1,hsz1⟩:=hrel
    by_cases hlt2:j<8
    ·have hb1:=hbv.out j hlt2
     have hyj:y / 2 ^ j<256:=Nat.lt_of_le_of_lt (Nat.div_le_self _ _) hy0
     have hhalf:=hid (half y j)
     have hsucc:=hid (bbs_succ (bitB l) (8*k+j))
     generalize y / 2 ^ j=z at *
     generalize bitB l (8*k+j)=b at *
     go_wp2_with (at_builtin;refine append1 rfl _ _ 79 rfl g 4 i0 (.bool false) 1 Tryz.underlying79 hi hz0 hz1 hz2 rfl _ (8*k+j) _ rfl (.bool b) rfl rfl (by exact hown1) (by unfold maxLen;omega) (by omega) w hbel1 hsz1 ?_;intro v' w1 hown2 hbel2)
     rw [<- hsucc.out] at hown2
     have hsz2:g<=w1.heap.size:=by rw [<- Hgs.out];exact hbel2.size
     go_wp2
     go_roundw
     case rel=>exact ⟨j+1,by omega,by go_num,by rw [hhalf.out];go_num,hown2,hbel2,hsz2⟩
     case measure=>simp [intOf];omega
    ·obtain rfl:j=8:=by omega
     go_wp2
     go_roundw
     case rel=>exact ⟨k+1,by omega,by go_num,hown1,hbel1,hsz1⟩
     case measure=>simp [intOf];omega
  ·obtain rfl:k=n:=by omega
   go_wp2
   go_ret
   exact ⟨_,rfl,by rw [Hgs.out];exact hown,by rw [Hgs.out];exact hbel⟩
end Go.Proofs.YtcnjpmcelihknaaGreatDoor
