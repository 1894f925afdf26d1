/-
  What the statement's proof rests on, part 37.
  Conditions: each theorem's own.
-/
import Derived.Test.YtcnjpmcelihknaaGreatDoorV36
open Go.Lib (hid)
open Go.Proofs.YtcnjpmcelihknaaGreatDoor.S renaming Sup → SuP
namespace Go.Proofs.YtcnjpmcelihknaaGreatDoor.U
open Go.RowKit Go.Maps
def shouldR (s:SuP) (M k st me:Nat) (S:Sh.Sf):Sh.Sf × Sh.Bs × Int:=tog s M k st (tkNot me) (Looked S (numOf s M st me)) M
inductive RdT (s:SuP) (M k st me:Nat) (S:Sh.Sf) (o:Nat->Int):Int->Sh.Bs->Stt->Prop
 | plain:¬(rdY S (numOf s M st me) k=4\/rdY S (numOf s M st me) k=5)->RdT s M k st me S o (rdY S (numOf s M st me) k) (V S (numOf s M st me) (dataOf k)) ⟨Looked S (numOf s M st me),o⟩
 | lack:(rdY S (numOf s M st me) k=4\/rdY S (numOf s M st me) k=5)->(shouldR s M k st me S).2.2≠0->RdT s M k st me S o (shouldR s M k st me S).2.2 [] ⟨(shouldR s M k st me S).1,o⟩
 | dead:rdY S (numOf s M st me) k=4->(shouldR s M k st me S).2.2=0->RdT s M k st me S o 0 (shouldR s M k st me S).2.1 ⟨(shouldR s M k st me S).1,o⟩
 | bad (z x:Int) (S2:Sh.Sf):rdY S (numOf s M st me) k=5->(shouldR s M k st me S).2.2=0->DW (shouldR s M k st me S).1 (numOf s M st me) (o (numOf s M st me)) k (shouldR s M k st me S).2.1 z x S2->z≠0->RdT s M k st me S o z [] ⟨S2,put1 o (numOf s M st me) x⟩
 | mend (x:Int) (S2:Sh.Sf):rdY S (numOf s M st me) k=5->(shouldR s M k st me S).2.2=0->DW (shouldR s M k st me S).1 (numOf s M st me) (o (numOf s M st me)) k (shouldR s M k st me S).2.1 0 x S2->RdT s M k st me S o 0 (shouldR s M k st me S).2.1 ⟨S2,put1 o (numOf s M st me) x⟩
inductive RdR (LL:Nat) (s:SuP) (M St:Nat) (n:Int) (S:Sh.Sf) (o:Nat->Int):Int->Sh.Bs->Stt->Prop
 | refused:refY S (hasB M St n)≠0->RdR LL s M St n S o (refY S (hasB M St n)) [] ⟨S,o⟩
 | there (m:Nat) (y:Int) (X:Sh.Bs) (t:Stt):n=(m:Int)->m<St*(M-1)->S.off=false->RdT s M (2+2*LL+stOf M m) (stOf M m) (meOf M m) S o y X t->RdR LL s M St n S o y X t
section
variable {J:Vk} {w w':World} {s:SuP} {o:Nat->Int} {S:Sh.Sf} {F:Nat->Prop} {D U:Set0} {M St:Nat}
def RdQ (J:Vk) (w:World) (s:SuP) (o:Nat->Int) (S:Sh.Sf) (F:Nat->Prop) (D U:Set0) (M St:Nat) (n:Int) (y:Int) (A:Option Addr) (len cap:Nat) (w':World):Prop :=
 ∃X t F',RdR J.L s M St n S o y X t/\Vr J w' s t.o t.S F' D U/\Sh.Moves (AllV J F) w (AllV J F') w'/\((y=0/\len=128/\Sh.Bytes w w' A X/\Sh.Sec X/\∀a,A=some a->¬AllV J F' a.block)\/(y≠0/\A=none/\len=0/\cap=0))
theorem new_apart (hlt:∀b,AllV J F b->b<w.heap.size) {A:Option Addr} {X:Sh.Bs} (hb:Sh.Bytes w w' A X):∀a,A=some a->¬AllV J F a.block:=fun a ha e=>by
 have h1:=(hb.2 a ha).1
 have h2:=hlt _ e
 omega
set_option maxRecDepth 20000 in
set_option maxHeartbeats 8000000 in
theorem vRead_any (h:Vr J w s o S F D U) (hf:Fits J.n J.L s M St S) (hT:Tabs J.W) (hTB:max 0 1+1<=J.B) (n:Int) {mm:Nat} (hL:∀x∈S.disks,x.waits.length<=mm) (hmm:mm<=500000000) :
  Calls Tryz.prog 84 #[.pointer (some ⟨J.v,0,none⟩),.int .i64 n] w fun e w'=>∃(y:Int) (A:Option Addr) (len cap:Nat),e=.returned (.tuple #[.slice A len cap,.int .i64 y])/\RdQ J w s o S F D U M St n y A len cap w':=by
 have HHB:=hid (vhas h hf n)
 have HH:=hid (And.intro h (And.intro hf hL))
 have HRF:=hid (fun (w1:World) (b:Below w.heap.size w w1)=>vrefusal (h.grown b) (hasB M St n))
 generalize hry:refY S (hasB M St n)=ry at *
 have HRY:=hid hry
 have hbn:Hid (ry=0->∃m:Nat,n=(m:Int)/\m<St*(M-1)/\S.off=false):=hid (by
  intro e
  rw [e] at hry
  unfold refY hasB at hry
  by_cases hb:0<=n/\n<((St*(M-1):Nat):Int)
  ·rw [decide_eq_true hb,if_pos rfl] at hry
   refine ⟨n.toNat,by omega,by omega,?_⟩
   cases ho:S.off
   ·rfl
   ·rw [ho] at hry;cases hry
  ·rw [decide_eq_false hb,if_neg (by decide)] at hry
   cases hry)
 clear h hf hL hry
 go_enter Tryz.func84,Tryz.ntmps84
 generalize hhb:hasB M St n=bb at *
 go_wp2_with fail
 refine HHB.out.mono ?_
 rintro e w1 ⟨rfl,hb1⟩
 have HB1:=hid hb1
 have HR1:=hid (HRF.out w1 hb1)
 clear HHB hb1 HRF
 have HBB:=hid hhb
 clear hhb
 go_wp2_with fail
 refine HR1.out.mono ?_
 rintro e w' ⟨rfl,rfl⟩
 clear HR1
 by_cases h0:ry=0
 ·subst h0
  obtain ⟨m,rfl,hm,hoff⟩:=hbn.out rfl
  obtain ⟨h,hf,hL⟩:=HH.out
  have V1:=h.grown HB1.out
  have c2:=cell_of_row _ _ 2 _ _ _ V1.vo.vol.root
  simp only [List.getElem?_toArray,List.getElem?_cons_zero,List.getElem?_cons_succ,hf.mem] at c2
  have hM15:St*(M-1)<=1024*15:=Nat.mul_le_mul hf.s2 (by have:=hf.m16;omega)
  have hM3:=hf.m3
  have hM16:=hf.m16
  have HMP:=hid (fun w=>L.map_ok M m w hM3 hM16 (by omega))
  rw [spot_is] at HMP
  have hstM:stOf M m<St:=by unfold stOf;exact (Nat.div_lt_iff_lt_mul (by omega)).2 hm
  have hmeM:meOf M m<M:=L.memAt_lt M _ _ (by omega)
  have HMM:=hid hm
  have HOF:=hid hoff
  generalize hst:stOf M m=st at *
  generalize hmeE:meOf M m=me at *
  generalize plOf M m=pl at *
  have HEQ:=hid (And.intro hst hmeE)
  have HTH:Hid (∀y X t,RdT s M (2+2*J.L+st) st me S o y X t->RdR J.L s M St (m:Int) S o y X t):=hid fun y X t ht=>by
   obtain ⟨e1,e2⟩:=HEQ.out
   exact .there m y X t rfl HMM.out HOF.out (by rw [e1,e2];exact ht)
  unfold spotV at HMP
  clear h hf hL V1 hm hoff hst hmeE hM15 hM3 hM16
  go_wp2_with fail
  refine (HMP.out _).mono ?_
  rintro e w2 ⟨rfl,hb2⟩
  have hbx:Below w.heap.size w w2:=HB1.out.trans (hb2.mono HB1.out.size)
  have hb3:Below w2.heap.size w2 (w2.alloc (.cells #[.int .i64 st,.int .i64 me,.int .i64 pl] 193)):=(Below.refl _ _).alloc (Nat.le_refl _) _
  have V3:=(HH.out.1.grown hbx).grown hb3
  have q3:=heap_alloc_new w2 (.cells #[.int .i64 st,.int .i64 me,.int .i64 pl] 193)
  have hn3:¬AllV J F w2.heap.size:=fun e=>Nat.lt_irrefl _ ((HH.out.1.grown hbx).lt _ e)
  have HK3:=hid (And.intro V3 (And.intro q3 (And.intro hn3 (hbx.trans (hb3.mono hbx.size)))))
  have HLK:=hid (look_any V3 HH.out.2.1 hT hTB st me hstM hmeM)
  clear hb2 hbx hb3 V3 q3 hn3 c2 HMP
  obtain ⟨k0,k1,_,_⟩:=cells3_of HK3.out.2.1
  go_wp2_with fail
  generalize w2.alloc (.cells #[.int .i64 st,.int .i64 me,.int .i64 pl] 193)=w3 at *
  generalize w2.heap.size=qq at *
  refine HLK.out.mono ?_
  rintro e w4 ⟨⟨A4,n4,c4,rfl,hX4⟩,hS4⟩
  have hly:=isLacking_any (rdY S (numOf s M st me) (2+2*J.L+st))
  have HX4:=hid hX4
  have HS4:=hid hS4
  have hq4:=beside_goes HK3.out.2.1 HK3.out.2.2.1 (⟨hS4.2,fun _ e=>.inl e⟩:Sh.Moves (AllV J F) w3 (AllV J F) w4)
  have HQ4:=hid hq4
  have HSEC:Hid (Sh.Sec (V S (numOf s M st me) (dataOf (2+2*J.L+st)))):=hid (HH.out.1.secs HH.out.2.1 (show 2+2*J.L+st<2+2*J.L+St by omega) _ (HH.out.2.1.num_lt st hmeM))
  clear HLK k0 k1 hX4 hS4 hq4
  by_cases hl:rdY S (numOf s M st me) (2+2*J.L+st)=4\/rdY S (numOf s M st me) (2+2*J.L+st)=5
  ·have hSL:Same S (Looked S (numOf s M st me)):=(Same.refl S).looked _
   have hf4:=HH.out.2.1.same hSL.len hSL.sectors
   have HSH:=hid (should_any HS4.out.1 hf4 hT hTB st me hstM)
   have hsec:Sh.Sec (shouldR s M (2+2*J.L+st) st me S).2.1:=tog_sec hf4 (fun d hd=>by rw [hSL.V];exact HH.out.1.secs HH.out.2.1 (show 2+2*J.L+st<2+2*J.L+St by omega) d hd) (Nat.le_refl _)
   have hsm:Same S (shouldR s M (2+2*J.L+st) st me S).1:=hSL.trans (tog_same M)
   have HSR:Hid (∀q,q=shouldR s M (2+2*J.L+st) st me S->tog s M (2+2*J.L+st) st (tkNot me) (Looked S (numOf s M st me)) M=q):=hid fun q e=>e.symm
   rw [show tog s M (2+2*J.L+st) st (tkNot me) (Looked S (numOf s M st me)) M=shouldR s M (2+2*J.L+st) st me S from rfl] at HSH
   generalize hsr:shouldR s M (2+2*J.L+st) st me S=sr at *
   obtain ⟨S1,x1,y1⟩:=sr
   simp only at HSH hsec hsm
   have HSE:=hid hsr
   clear hsr HSR
   rw [decide_eq_true hl] at hly
   have HLL:=hid hl
   have HSM:=hid hsm
   obtain ⟨k0,k1,_,_⟩:=cells3_of HQ4.out.1
   clear hl hSL hf4 hsm
   generalize hyr:rdY S (numOf s M st me) (2+2*J.L+st)=yr at *
   have HYR:=hid hyr
   clear hyr
   go_wp2_with (go_at_call 152;refine (hly _).mono ?_;rintro e w' ⟨rfl,rfl⟩)
   refine HSH.out.mono ?_
   rintro e w5 ⟨⟨A5,n5,c5,rfl,hX5⟩,hS5⟩
   clear HSH hly
   have HS5:=hid hS5
   have hm5:Sh.Moves (AllV J F) w (AllV J F) w5:=(moves_grown HK3.out.2.2.2).trans (Sh.Moves.trans (⟨HS4.out.2,fun _ e=>.inl e⟩:Sh.Moves (AllV J F) w3 (AllV J F) w4) ⟨hS5.2,fun _ e=>.inl e⟩)
   have HM5:=hid hm5
   have HX5:=hid hX5
   clear hX5 hS5 hm5
   by_cases h1:y1=0
   ·subst h1
    obtain ⟨hn5,hBy⟩:n5=128/\Sh.Bytes w w5 A5 x1:=by
     rcases HX5.out with ⟨_,h1,h2⟩ | ⟨h1,_⟩
     ·exact ⟨h1,bytes_from h2 (Nat.le_trans HK3.out.2.2.2.size HS4.out.2.size)⟩
     ·exact absurd rfl h1
    subst hn5
    have HBY:=hid hBy
    have hap:=new_apart HH.out.1.lt hBy
    have HAP:=hid hap
    rcases HLL.out with e4 | e5
    ·have hy4:yr=4:=e4
     subst hy4
     have HR:=hid (HTH.out 0 x1 ⟨S1,o⟩ (by have:=RdT.dead (o:=o) HYR.out (by rw [HSE.out]);rw [HSE.out] at this;exact this))
     clear hBy hap e4 k0 k1
     go_wp2
     go_ret2
     exact ⟨0,A5,128,c5,rfl,x1,⟨S1,o⟩,F,HR.out,HS5.out.1,HM5.out,.inl ⟨rfl,rfl,HBY.out,hsec,HAP.out⟩⟩
    ·have hy5:yr=5:=e5
     subst hy5
     have HST:=hid (set_any HS5.out.1 (HH.out.2.1.same HSM.out.len HSM.out.sectors) hT hTB st me hstM hmeM (A:=A5) (c:=c5) hsec ⟨hBy.1,hap⟩ (by rw [HSM.out.disks];exact HH.out.2.2) (by omega))
     have k0b:w5.cell? ⟨qq,0,none⟩=some (.int .i64 st):=(HS5.out.2.cell (p:=⟨qq,0,none⟩) (lt_of_block HQ4.out.1) HQ4.out.2).trans k0
     have k1b:w5.cell? ⟨qq,1,none⟩=some (.int .i64 me):=(HS5.out.2.cell (p:=⟨qq,1,none⟩) (lt_of_block HQ4.out.1) HQ4.out.2).trans k1
     clear hBy hap e5 k0 k1
     go_wp2_with fail
     refine HST.out.mono ?_
     rintro e w6 ⟨z,rfl,x6,S6,hD6,F6,V6,m6⟩
     clear HST k0b k1b
     have HD6:=hid hD6
     have HV6:=hid (And.intro V6 (And.intro m6 (HM5.out.trans m6)))
     clear hD6 V6 m6
     by_cases hz:z=0
     ·subst hz
      have HR:=hid (HTH.out 0 x1 ⟨S6,put1 o (numOf s M st me) x6⟩ (by have:=RdT.mend (o:=o) x6 S6 HYR.out (by rw [HSE.out]) (by rw [HSE.out];exact HD6.out);rw [HSE.out] at this;exact this))
      go_wp2
      go_ret2
      have hb6:=bytes_only HBY.out HAP.out HV6.out.2.1.1
      exact ⟨0,A5,128,c5,rfl,x1,_,F6,HR.out,HV6.out.1,HV6.out.2.2,.inl ⟨rfl,rfl,hb6,hsec,fun a ha e=>by
       rcases HV6.out.2.1.2 _ e with e | e
       ·exact HAP.out a ha e
       ·obtain ⟨ad,e1,hlt,_⟩:=HBY.out.1.2 (by decide)
        rw [ha] at e1
        injection e1 with e1
        subst e1
        omega⟩⟩
     ·have hq:(z != 0)=true:=by simpa using hz
      have hq2:(z == 0)=false:=by simpa using hz
      have HR:=hid (HTH.out z [] ⟨S6,put1 o (numOf s M st me) x6⟩ (RdT.bad (o:=o) z x6 S6 HYR.out (by rw [HSE.out]) (by rw [HSE.out];exact HD6.out) hz))
      have HZ:=hid hz
      clear hz
      go_wp2
      go_ret2
      exact ⟨z,none,0,0,rfl,[],_,F6,HR.out,HV6.out.1,HV6.out.2.2,.inr ⟨HZ.out,rfl,rfl,rfl⟩⟩
   ·have hq:(y1 != 0)=true:=by simpa using h1
    have hq2:(y1 == 0)=false:=by simpa using h1
    have HR:=hid (HTH.out y1 [] ⟨S1,o⟩ (by have:=RdT.lack (o:=o) (by rw [HYR.out];exact HLL.out) (by rw [HSE.out];exact h1);rw [HSE.out] at this;exact this))
    have H1:=hid h1
    clear h1 k0 k1
    go_wp2
    go_ret2
    exact ⟨y1,none,0,0,rfl,[],⟨S1,o⟩,F,HR.out,HS5.out.1,HM5.out,.inr ⟨H1.out,rfl,rfl,rfl⟩⟩
  ·rw [decide_eq_false hl] at hly
   have HR:=hid (HTH.out _ _ _ (.plain hl))
   have HV:Hid (RStay J w w4 s o (Looked S (numOf s M st me)) F D U):=hid (RStay.trans (only_below _ HK3.out.2.2.2) HS4.out)
   clear hl
   generalize rdY S (numOf s M st me) (2+2*J.L+st)=yr at *
   go_wp2_with (go_at_call 152;refine (hly _).mono ?_;rintro e w' ⟨rfl,rfl⟩)
   go_ret2
   refine ⟨yr,A4,n4,c4,rfl,_,_,F,HR.out,HV.out.1,⟨HV.out.2,fun _ e=>.inl e⟩,HX4.out.imp (fun ⟨h1,h2,h3⟩=>?_) id⟩
   have hby:Sh.Bytes w w4 A4 _:=bytes_from h3 HK3.out.2.2.2.size
   exact ⟨h1,h2,hby,HSEC.out,new_apart HH.out.1.lt hby⟩
 ·have hq:(ry != 0)=true:=by simpa using h0
  have hq2:(ry == 0)=false:=by simpa using h0
  have H0:=hid h0
  clear h0
  go_wp2
  go_ret2
  have e:refY S (hasB M St n)=ry:=by rw [HBB.out];exact HRY.out
  refine ⟨ry,none,0,0,rfl,[],⟨S,o⟩,F,?_,HH.out.1.grown HB1.out,moves_grown HB1.out,.inr ⟨H0.out,rfl,rfl,rfl⟩⟩
  have:=RdR.refused (LL:=J.L) (s:=s) (M:=M) (St:=St) (n:=n) (S:=S) (o:=o) (by rw [e];exact H0.out)
  rw [e] at this
  exact this
end
end Go.Proofs.YtcnjpmcelihknaaGreatDoor.U
