/-
  What the statement's proof rests on, part 40.
  Conditions: each theorem's own.
-/
import Derived.Test.YthhldceidmphfaaGreatDoorF36
import Derived.Test.YthhldceidmphfaaGreatDoorFtk
namespace Go.Proofs.YthhldceidmphfaaGreatDoor.U.raidForeign.p4
abbrev SupsAre:=@Go.Proofs.YthhldceidmphfaaGreatDoor.S.SupsAre
open Go.ChangeShapes Go.WideShapes Go.ChangeAt Go.RowKit Go.Maps
theorem rest_ex (a:Int) (n:Nat) (h:0<n):∃k:Nat,(a%(n:Int)).toNat=k∧k<n:=⟨_,rfl,by
 have h0:0≤a%(n:Int):=Int.emod_nonneg _ (by omega)
 have h1:a%(n:Int)<n:=Int.emod_lt_of_pos _ (by omega)
 omega⟩
set_option maxRecDepth 100000 in
set_option maxHeartbeats 8000000 in
theorem walk {w:World} (ds:Int) (_:-9223372036854775808≤ds) (_:ds≤9223372036854775807) (A1:Option Addr) (n1 c1:Nat) (ss:List Go.Proofs.YthhldceidmphfaaGreatDoor.S.Sup) (rd:SupsAre w w.heap.size A1 n1 ss) (_:n1*64≤140737488351232) (A2:Option Addr) (n2 c2:Nat) (f:Nat→Sh.Op8) (hl:Sh.Ops8 w A2 n2 f) (hA:All w) (h1:20<n1) (h2:30<n2) :
  Calls Tryz.prog 11 #[.int .i64 ds,.slice A1 n1 c1,.slice A2 n2 c2] w fun e w'=>e=.returned (.bool true)∧Below w.heap.size w w':=by
 have HC1:=Lib.hid h1
 have HC2:=Lib.hid h2
 clear h1 h2
 have HM:=Lib.hid (mod8_any ds 17 (by decide) (by decide) w)
 obtain ⟨k,hk,hk17⟩:=rest_ex ds 17 (by decide)
 rw [hk] at HM
 obtain ⟨N,hN⟩:∃N:Nat,N=k+1:=⟨_,rfl⟩
 have HN:=Lib.hid (show 1≤N∧N≤17 by omega)
 have e1:1+(k:Int)=(N:Int):=by omega
 have q17:N≤17:=by omega
 have HA:=Lib.hid hA
 have HRD:=Lib.hid rd
 have HL:=Lib.hid hl
 have hnn:=hl.1
 have HNW:=Lib.hid (fo_new (W:=w) (w:=w) N HN.out.1 HN.out.2 (Below.refl _ _) (Nat.le_refl _))
 clear hA rd hl hk hN
 go_enter Tryz.func11,Tryz.ntmps11
 go_wp2_with fail
 refine HM.out.mono ?_
 rintro e w' ⟨rfl,rfl⟩
 go_wp2_with fail
 refine HNW.out.mono ?_
 rintro e w1 ⟨p,rfl,hf⟩
 have HF1:=Lib.hid hf
 have HA1:=Lib.hid (HA.out.over hf.bel.1)
 clear hf HNW HM
 have HLI:=Lib.hid (lives_true w1 HA1.out.tabs HA1.out.fld HA1.out.wid)
 go_wp2_with fail
 refine HLI.out.mono ?_
 rintro e w2 ⟨rfl,hb2⟩
 have H0:Hid (Fo w p N (10*0) w2):=Lib.hid (HF1.out.grown hb2)
 clear hb2 HLI HF1 HA1
 go_wp2_with fail
 go_loopw [10] (fun i wr=>∃j:Nat,j≤n1∧j≤20∧i=.int .i64 j∧Hid (Fo w p N (10*j) wr)) (fun i _=>20-(intOf i).toNat)
 case atStart=>exact ⟨0,Nat.zero_le _,Nat.zero_le _,rfl,H0⟩
 case round =>
  obtain ⟨j,hj,hj2,rfl,HBr⟩:=hrel
  clear H0
  by_cases hlt:j<n1∧j<20
  ·as_aux_lemma =>
   obtain ⟨hlt,hlt2⟩:=hlt
   have q3:(j:Int)<(n1:Int):=by omega
   have q4:(j:Int)<20:=by omega
   obtain ⟨b0,off0,rfl,hbl,hop⟩:=HRD.out.at_ hlt
   have hbr:=HBr.out.bel.1
   have HAR:=Lib.hid (HA.out.over hbr)
   generalize Go.Proofs.YthhldceidmphfaaGreatDoor.S.supAt ss j=x at *
   have HCL:=Lib.hid (fun W' (hb:Below w.heap.size w W') i v (h:x.cells[i]?=some v)=>(hb.cell (p:=⟨b0,off0+j*8+i,none⟩) hbl).trans (hop i v h))
   have HOK:=Lib.hid (fun h=>Go.Proofs.YthhldceidmphfaaGreatDoor.S.encode_ok x wr h HAR.out.tabs HAR.out.wid)
   have HNO:=Lib.hid (fun h=>Go.Proofs.YthhldceidmphfaaGreatDoor.S.encode_no x wr h)
   obtain ⟨dd,hdd,hddN⟩:=rest_ex x.disk N (by have:=HN.out;omega)
   have HMD:Hid (∀W,Calls Tryz.prog 24 #[.int .i64 x.disk,.int .i64 N] W fun e w'=>e=.returned (.int .i64 (dd:Int))∧W=w'):=Lib.hid (fun W=>by
    have:=mod8_any x.disk N (by have:=HN.out;omega) (by omega) W
    rw [hdd] at this
    exact this)
   have HBR:=Lib.hid hbr
   have HDN:=Lib.hid hddN
   clear hop hdd hddN
   have hx0:wr.cell? ⟨b0,off0+j*8,none⟩=some (.int .i64 x.gen):=HCL.out wr hbr 0 _ rfl
   have hx1:=HCL.out wr hbr 1 _ rfl
   have hx2:=HCL.out wr hbr 2 _ rfl
   have hx3:=HCL.out wr hbr 3 _ rfl
   have hx4:=HCL.out wr hbr 4 _ rfl
   have hx5:=HCL.out wr hbr 5 _ rfl
   have hx6:=HCL.out wr hbr 6 _ rfl
   have hx7:=HCL.out wr hbr 7 _ rfl
   clear hbr
   by_cases hr:x.right=true
   ·have hg:=(Go.Proofs.YthhldceidmphfaaGreatDoor.S.right_parts hr).1
    have HEN:=Lib.hid (HOK.out hr)
    obtain ⟨kk,hkk⟩:∃kk:Nat,x.gen%2=(kk:Int):=⟨(x.gen%2).toNat,by omega⟩
    have HKK:=Lib.hid (show kk<2 by omega)
    have HSL:=Lib.hid (fun w=>Go.Proofs.YthhldceidmphfaaGreatDoor.S.slot_any x.gen w (by omega) (by omega))
    rw [hkk] at HSL
    have HSE:=Lib.hid (show Sh.Sec (Go.Proofs.YthhldceidmphfaaGreatDoor.S.encL x.nums) from ⟨Go.Proofs.YthhldceidmphfaaGreatDoor.S.encL_length _,Go.Proofs.YthhldceidmphfaaGreatDoor.S.encL_small _⟩)
    generalize Go.Proofs.YthhldceidmphfaaGreatDoor.S.encL x.nums=le at *
    unfold Go.Proofs.YthhldceidmphfaaGreatDoor.S.Sup.val at HEN
    clear HOK HNO hr hg hkk
    obtain ⟨x0,x1,x2,x3,x4,x5,x6,x7⟩:=x
    simp only [Go.Proofs.YthhldceidmphfaaGreatDoor.S.Sup.cells] at hx0 hx1 hx2 hx3 hx4 hx5 hx6 hx7 HEN HMD HSL HCL
    go_wp2_with fail
    refine HEN.out.mono ?_
    rintro e w3 ⟨g,rfl,ho,hb3⟩
    have hbw3:=HBR.out.trans (hb3.mono HBr.out.bel.2)
    have y2:=HCL.out w3 hbw3 2 _ rfl
    have HOP:=Lib.hid (fo_open HBr.out hb3 dd HDN.out)
    have HO3:=Lib.hid (And.intro ho (And.intro hb3 hbw3))
    clear ho hb3 hbw3 hx0 hx1 hx2 hx3 hx4 hx5 hx6 hx7 HEN
    go_wp2_with fail
    refine (HMD.out _).mono ?_
    rintro e w' ⟨rfl,rfl⟩
    go_wp2_with fail
    refine HOP.out.mono ?_
    rintro e w4 ⟨rfl,h4,hb4⟩
    obtain ⟨hg1,hg2⟩:=own_there HO3.out.1
    have hbw4:=HO3.out.2.2.trans (hb4.mono (Nat.le_trans HBr.out.bel.2 HO3.out.2.1.size))
    have y0:w4.cell? ⟨b0,off0+j*8,none⟩=some (.int .i64 x0):=HCL.out w4 hbw4 0 _ rfl
    have HWR:=Lib.hid (foD_write h4 HA.out HDN.out kk (by have:=HKK.out;omega) (Sh.reads_only (Reads.of_own HO3.out.1) (below_only0 hb4) (fun _ _ _ e=>e)) HSE.out hg1 (Nat.ne_of_lt hg2) (by omega))
    clear h4 hb4 hbw4 hg1 hg2 HOP y2
    go_wp2_with fail
    refine (HSL.out _).mono ?_
    rintro e w' ⟨rfl,rfl⟩
    go_wp2_with fail
    refine HWR.out.mono ?_
    rintro e w5 ⟨⟨y5,rfl⟩,h5⟩
    have HFL:=Lib.hid (foD_flush h5 HDN.out (by omega))
    clear h5 HWR y0
    go_wp2_with fail
    refine HFL.out.mono ?_
    rintro e w6 ⟨⟨y6,rfl⟩,h6⟩
    have H6:Hid (Fo w p N (10*(j+1)) w6):=Lib.hid (h6.more (by omega))
    clear h6 HFL
    go_wp2_with fail
    refine ⟨⟨j+1,by omega,by omega,by go_num,H6⟩,?_⟩
    simp [intOf]
    omega
   ·have HEN:=Lib.hid (HNO.out (by simpa using hr))
    unfold Go.Proofs.YthhldceidmphfaaGreatDoor.S.Sup.val at HEN
    clear HOK HNO hr
    obtain ⟨x0,x1,x2,x3,x4,x5,x6,x7⟩:=x
    simp only [Go.Proofs.YthhldceidmphfaaGreatDoor.S.Sup.cells] at hx0 hx1 hx2 hx3 hx4 hx5 hx6 hx7 HEN HMD HCL
    go_wp2_with fail
    refine HEN.out.mono ?_
    rintro e w3 ⟨rfl,hb3⟩
    have hbw3:=HBR.out.trans (hb3.mono HBr.out.bel.2)
    have y2:=HCL.out w3 hbw3 2 _ rfl
    have HOP:=Lib.hid (fo_open HBr.out hb3 dd HDN.out)
    have HO3:=Lib.hid hb3
    clear hb3 hbw3 hx0 hx1 hx2 hx3 hx4 hx5 hx6 hx7 HEN
    go_wp2_with fail
    refine (HMD.out _).mono ?_
    rintro e w' ⟨rfl,rfl⟩
    go_wp2_with fail
    refine HOP.out.mono ?_
    rintro e w4 ⟨rfl,h4,hb4⟩
    have H6:Hid (Fo w p N (10*(j+1)) w4):=Lib.hid (((HBr.out.grown HO3.out).grown hb4).more (by omega))
    clear h4 hb4 HOP y2
    go_wp2_with fail
    refine ⟨⟨j+1,by omega,by omega,by go_num,H6⟩,?_⟩
    simp [intOf]
    omega
  ·have H1:Hid (Fo w p N (300+10*0) wr):=Lib.hid (HBr.out.more (by omega))
   clear HBr
   by_cases hkn:j<n1
   ·have q5:(j:Int)<(n1:Int):=by omega
    have q6:¬((j:Int)<20):=by omega
    go_wp2_with fail
    go_loopw [15] (fun i wr=>∃j:Nat,j≤n2∧j≤30∧i=.int .i64 j∧Hid (Fo w p N (300+10*j) wr)) (fun i _=>30-(intOf i).toNat)
    case atStart=>exact ⟨0,Nat.zero_le _,Nat.zero_le _,rfl,H1⟩
    case round =>
     obtain ⟨j2,hj3,hj4,rfl,HBr⟩:=hrel
     clear H1
     by_cases hlt2:j2<n2∧j2<30
     ·as_aux_lemma =>
      obtain ⟨hlt2,hlt3⟩:=hlt2
      have q7:(j2:Int)<(n2:Int):=by omega
      have q8:(j2:Int)<30:=by omega
      obtain ⟨b0,off0,rfl,hbl,hop⟩:=HL.out.2 (by omega)
      have hop:=hop j2 hlt2
      have hbr:=HBr.out.bel.1
      have y1:=fun W' (hb:Below w.heap.size w W')=>(hb.cell (p:=⟨b0,off0+j2*5+1,none⟩) hbl).trans hop.c1
      have y2:=fun W' (hb:Below w.heap.size w W')=>(hb.cell (p:=⟨b0,off0+j2*5+2,none⟩) hbl).trans hop.c2
      have y3:=fun W' (hb:Below w.heap.size w W')=>(hb.cell (p:=⟨b0,off0+j2*5+3,none⟩) hbl).trans hop.c3
      have hkx:=hop.b3
      clear hop
      generalize (f j2).n=kn at *
      generalize (f j2).at_=ka at *
      generalize (f j2).x=kx at *
      obtain ⟨dd,hdd,hddN⟩:=rest_ex ka N (by have:=HN.out;omega)
      obtain ⟨kk,hkk,hkk40⟩:=rest_ex kn 40 (by decide)
      have HM1:Hid (∀W,Calls Tryz.prog 24 #[.int .i64 ka,.int .i64 N] W fun e w'=>e=.returned (.int .i64 (dd:Int))∧W=w'):=Lib.hid (fun W=>by
       have:=mod8_any ka N (by have:=HN.out;omega) (by omega) W
       rw [hdd] at this
       exact this)
      have HM2:Hid (∀W,Calls Tryz.prog 24 #[.int .i64 kn,.int .i64 40] W fun e w'=>e=.returned (.int .i64 (kk:Int))∧W=w'):=Lib.hid (fun W=>by
       have:=mod8_any kn 40 (by decide) (by decide) W
       rw [hkk] at this
       exact this)
      have HDD:=Lib.hid hddN
      have HKK:=Lib.hid hkk40
      have HD:=Lib.hid (HBr.out.grown ((Below.refl wr.heap.size wr).drew))
      have hbd:Below w.heap.size w wr.drew:=HD.out.bel.1
      clear hdd hddN hkk hkk40 hbr HBr
      go_wp2_with fail
      refine wp_region_held_drew (S:=fun W'=>Below w.heap.size w W') (by kernel_rfl) hbd (fun hHeld=>?_)
      refine tk 0 96 ?_
      refine tk 1 97 ?_
      refine tk 2 98 ?_
      refine tk 3 99 ?_
      refine tk 4 100 ?_
      refine tk 5 101 ?_
      refine tk 6 102 ?_
      refine tk 8 104 ?_
      refine tk 9 105 ?_
      refine tk 10 106 ?_
      refine tk 11 107 ?_
      refine tk 12 108 ?_
      refine tk 14 110 ?_
      refine tk 15 111 ?_
      refine tk 16 112 ?_
      refine tk 17 113 ?_
      refine tk 18 114 ?_
      refine r1 7 (some 103) fun K hK=>?_
      go_simp
      refine (HM1.out _).mono ?_
      rintro e w' ⟨rfl,rfl⟩
      refine hK.out _ _ hHeld (fun hHeld=>?_)
      clear hK K
      try simp only [Act.put,List.setIfInBounds_toArray,List.set_cons_zero,List.set_cons_succ]
      refine r1 13 (some 109) fun K hK=>?_
      go_simp
      refine (HM2.out _).mono ?_
      rintro e w' ⟨rfl,rfl⟩
      refine hK.out _ _ hHeld (fun hHeld=>?_)
      clear hK K
      try simp only [Act.put,List.setIfInBounds_toArray,List.set_cons_zero,List.set_cons_succ]
      refine r1 19 (some 115) fun K hK=>?_
      go_simp
      refine (Sh.sector_any _ kx hkx).mono ?_
      rintro e w10 ⟨rfl,ho10,hb10⟩
      refine hK.out _ _ (hHeld.trans (hb10.mono hHeld.size)) (fun hHeld=>?_)
      clear hK K
      try simp only [Act.put,List.setIfInBounds_toArray,List.set_cons_zero,List.set_cons_succ]
      refine r1 20 (some 116) fun K hK=>?_
      go_simp
      refine (fo_write (g:=wr.heap.size) HD.out hb10 ho10 (Sh.secOf_sec hkx) dd kk HDD.out HKK.out (by omega)).mono ?_
      rintro e w11 ⟨⟨y11,rfl⟩,h11⟩
      refine hK.out _ _ h11.bel.1 (fun hHeld=>?_)
      clear hK K
      try simp only [Act.put,List.setIfInBounds_toArray,List.set_cons_zero,List.set_cons_succ]
      refine wpAnyH_done (by kernel_rfl) ?_ _
      have H6:Hid (Fo w p N (300+10*(j2+1)) w11):=Lib.hid (h11.more (by omega))
      clear h11 HM1 HM2 hHeld y1 y2 y3
      go_wp2_with fail
      refine ⟨⟨j2+1,by omega,by omega,by go_num,H6⟩,?_⟩
      simp [intOf]
      omega
     ·have HOP:=Lib.hid (open_free HBr.out HA.out HN.out.1 HN.out.2 (by omega))
      clear HBr
      by_cases hkn2:j2<n2
      ·have q7:(j2:Int)<(n2:Int):=by omega
       have q8:¬((j2:Int)<30):=by omega
       go_wp2_with fail
       as_aux_lemma =>
        refine HOP.out.mono ?_
        rintro e w3 (⟨rfl,hb⟩ | ⟨J,s,M,St,rfl,hM,hNM,hSt,hv⟩)
        ·have HB:=Lib.hid hb
         clear hb HOP
         go_wp2
         go_ret
         exact ⟨rfl,HB.out⟩
        ·obtain ⟨hM1,hM2⟩:=hM
         have H3:Hid (FoV w N (1000000+1000*0) J s M St w3):=Lib.hid (hv.more (by omega))
         have HNM:=Lib.hid hNM
         clear hv HOP hNM
         go_wp2_with fail
         go_loopw [17] (fun i wr=>∃j:Nat,j≤40∧i=.int .i64 j∧Hid (FoV w N (1000000+1000*j) J s M St wr)) (fun i _=>40-(intOf i).toNat)
         case atStart=>exact ⟨0,Nat.zero_le _,rfl,H3⟩
         case round =>
          obtain ⟨j3,hj5,rfl,HV⟩:=hrel
          clear H3
          by_cases hlt3:j3<40
          ·have q9:(j3:Int)<40:=by omega
           have HRE:=Lib.hid (foV_read HV.out HA.out (by omega) (j3:Int))
           clear HV
           go_wp2_with fail
           refine HRE.out.mono ?_
           rintro e w4 ⟨y,A4,l4,c4,rfl,h4,hc⟩
           have HSZ:=Lib.hid (foV_size h4)
           have H4:Hid (FoV w N (1000000+1000*(j3+1)) J s M St w4):=Lib.hid (h4.more (by omega))
           clear h4 HRE
           rcases hc with ⟨rfl,rfl⟩ | rfl | ⟨rfl,hno⟩
           ·clear HSZ
            go_wp2_with fail
            refine ⟨⟨j3+1,by omega,by go_num,H4⟩,?_⟩
            simp [intOf]
            omega
           ·clear HSZ
            go_wp2_with fail
            refine ⟨⟨j3+1,by omega,by go_num,H4⟩,?_⟩
            simp [intOf]
            omega
           ·have q10:¬((j3:Int)<((St*(M-1):Nat):Int)):=by omega
            clear hno
            generalize St*(M-1)=NN at *
            go_wp2_with fail
            refine HSZ.out.mono ?_
            rintro e w5 ⟨rfl,hb5⟩
            have H5:=Lib.hid (H4.out.grown hb5)
            clear hb5 HSZ H4
            go_wp2_with fail
            refine ⟨⟨j3+1,by omega,by go_num,H5⟩,?_⟩
            simp [intOf]
            omega
          ·have q9:¬((j3:Int)<40):=by omega
           have HSS:=Lib.hid (foV_status HV.out)
           go_wp2_with fail
           refine HSS.out.mono ?_
           rintro e w4 ⟨A4,c4,rfl,hb4⟩
           have HV4:=Lib.hid (HV.out.grown hb4)
           clear hb4 HSS HV
           generalize s.spare=sp at *
           generalize s.mark=smk at *
           generalize s.cur=scu at *
           have hb5:Below w4.heap.size w4 (w4.alloc (.cells #[.int .i64 M,.int .i64 St,.slice A4 0 c4,.int .i64 sp,.int .i64 smk,.int .i64 scu] 74)):=(Below.refl _ _).alloc (Nat.le_refl _) _
           have hrow:=heap_alloc_new w4 (.cells #[.int .i64 M,.int .i64 St,.slice A4 0 c4,.int .i64 sp,.int .i64 smk,.int .i64 scu] 74)
           have HV5:=Lib.hid (HV4.out.grown hb5)
           have HRW:=Lib.hid hrow
           clear hb5 hrow HV4
           obtain ⟨NN,hNN⟩:∃NN:Nat,NN=St*(M-1):=⟨_,rfl⟩
           obtain ⟨M1,hM1e⟩:∃M1:Nat,M1=M-1:=⟨_,rfl⟩
           have p1:decide ((M:Int)≥3)=true:=decide_eq_true (by omega)
           have p2:decide ((M:Int)≤16)=true:=decide_eq_true (by omega)
           have hwm:IntKind.i64.wrap ((M:Int)-1)=(M1:Int):=(IntWalk.i64_in _ ⟨by omega,by omega⟩).trans (by omega)
           have hNNb:NN≤1024*16:=by rw [hNN];exact Nat.mul_le_mul hSt (by omega)
           have hwp:IntKind.i64.wrap ((St:Int)*(M1:Int))=(NN:Int):=by
            have e:(St:Int)*(M1:Int)=(NN:Int):=by rw [hNN,hM1e];simp
            rw [e]
            exact IntWalk.i64_in _ ⟨by omega,by omega⟩
           have hwn:IntKind.i64.wrap ((M:Int)+1)=(M:Int)+1:=IntWalk.i64_in _ ⟨by omega,by omega⟩
           have HNE:=Lib.hid hNN
           clear hNN hM1e
           go_wp2_with fail
           generalize hw5:w4.alloc (.cells #[.int .i64 M,.int .i64 St,.slice A4 0 c4,.int .i64 sp,.int .i64 smk,.int .i64 scu] 74)=w5 at *
           generalize hq5:w4.heap.size=q5 at *
           have hlt5:=(Array.getElem?_eq_some_iff.1 HRW.out).1
           have HSZ:Hid (∀W,Below w5.heap.size w5 W→Calls Tryz.prog 38 #[.pointer (some ⟨J.v,0,none⟩)] W fun e w'=>e=.returned (.int .i64 (NN:Int))∧Below W.heap.size W w'):=Lib.hid fun W hb=>by rw [HNE.out];exact foV_size (HV5.out.grown hb)
           have k0:=fun W' (hb:Below w5.heap.size w5 W')=>(hb.cell (p:=⟨q5,0,none⟩) hlt5).trans (cell_of_row _ _ 0 _ _ _ HRW.out)
           have k1:=fun W' (hb:Below w5.heap.size w5 W')=>(hb.cell (p:=⟨q5,1,none⟩) hlt5).trans (cell_of_row _ _ 1 _ _ _ HRW.out)
           have k2:=fun W' (hb:Below w5.heap.size w5 W')=>(hb.cell (p:=⟨q5,2,none⟩) hlt5).trans (cell_of_row _ _ 2 _ _ _ HRW.out)
           have hbW:Hid (Below w.heap.size w w5∧w.heap.size≤w5.heap.size):=Lib.hid HV5.out.bel
           clear hw5 hq5 hlt5 HV5 HRW
           by_cases hnm:N=M
           ·as_aux_lemma =>
            have rq1:((N:Int) == (M:Int))=true:=by rw [hnm];simp
            have rq2:((N:Int)=(M:Int))=True:=by rw [hnm];simp
            clear hnm HNM
            refine wp_region_held_drew (S:=fun W'=>Below w5.heap.size w5 W') (by kernel_rfl) ((Below.refl _ _).drew) (fun hHeld=>?_)
            refine tk 0 171 ?_
            refine tk 1 172 ?_
            refine tk 2 173 ?_
            refine tk 3 174 ?_
            refine tk 4 175 ?_
            refine tk 5 176 ?_
            refine tk 6 177 ?_
            refine tk 7 178 ?_
            refine tk 8 179 ?_
            refine tk 9 180 ?_
            refine tk 10 181 ?_
            refine tk 11 182 ?_
            refine tk 12 183 ?_
            refine tk 13 184 ?_
            refine tu 14 185 ?_
            refine tu 15 186 ?_
            refine tu 16 187 ?_
            refine tu 17 188 ?_
            refine tu 18 189 ?_
            refine tk 19 190 ?_
            refine tk 20 191 ?_
            refine tk 21 192 ?_
            refine tk 22 193 ?_
            refine tk 23 194 ?_
            refine tk 24 195 ?_
            refine tk 25 196 ?_
            refine tk 26 197 ?_
            refine tk 27 198 ?_
            refine tk 28 199 ?_
            refine tk 30 201 ?_
            refine tk 31 202 ?_
            refine tk 32 203 ?_
            refine tk 33 204 ?_
            refine tk 34 205 ?_
            refine tk 35 206 ?_
            refine r1 29 (some 200) fun K hK=>?_
            go_simp
            refine (HSZ.out _ hHeld).mono ?_
            rintro e w9 ⟨rfl,hb9⟩
            refine hK.out _ _ (hHeld.trans (hb9.mono hHeld.size)) (fun hHeld=>?_)
            clear hK K
            try simp only [Act.put,List.setIfInBounds_toArray,List.set_cons_zero,List.set_cons_succ]
            refine tk 36 207 ?_
            refine tk 37 208 ?_
            refine tk 38 6 ?_
            refine wpAnyH_done (by kernel_rfl) ?_ _
            have HB:=Lib.hid (hbW.out.1.trans (hHeld.mono hbW.out.2))
            clear hHeld k0 k1 k2 HSZ
            go_wp2
            go_ret
            exact ⟨rfl,HB.out⟩
           ·as_aux_lemma =>
            have rq1:((N:Int) == (M:Int))=false:=by rw [beq_eq_false_iff_ne];omega
            have rq2:((N:Int)=(M:Int))=False:=eq_false (by omega)
            have rq3:((N:Int) == (M:Int)+1)=true:=by have:=HNM.out;simp;omega
            have rq4:((N:Int)=(M:Int)+1)=True:=eq_true (by have:=HNM.out;omega)
            clear hnm HNM
            refine wp_region_held_drew (S:=fun W'=>Below w5.heap.size w5 W') (by kernel_rfl) ((Below.refl _ _).drew) (fun hHeld=>?_)
            refine tk 0 171 ?_
            refine tk 1 172 ?_
            refine tk 2 173 ?_
            refine tk 3 174 ?_
            refine tk 4 175 ?_
            refine tk 5 176 ?_
            refine tk 6 177 ?_
            refine tk 7 178 ?_
            refine tk 8 179 ?_
            refine tk 9 180 ?_
            refine tk 10 181 ?_
            refine tk 11 182 ?_
            refine tk 12 183 ?_
            refine tk 13 184 ?_
            refine tk 14 185 ?_
            refine tk 15 186 ?_
            refine tk 16 187 ?_
            refine tk 17 188 ?_
            refine tk 18 189 ?_
            refine tk 19 190 ?_
            refine tk 20 191 ?_
            refine tk 21 192 ?_
            refine tk 22 193 ?_
            refine tk 23 194 ?_
            refine tk 24 195 ?_
            refine tk 25 196 ?_
            refine tk 26 197 ?_
            refine tk 27 198 ?_
            refine tk 28 199 ?_
            refine tk 30 201 ?_
            refine tk 31 202 ?_
            refine tk 32 203 ?_
            refine tk 33 204 ?_
            refine tk 34 205 ?_
            refine tk 35 206 ?_
            refine r1 29 (some 200) fun K hK=>?_
            go_simp
            refine (HSZ.out _ hHeld).mono ?_
            rintro e w9 ⟨rfl,hb9⟩
            refine hK.out _ _ (hHeld.trans (hb9.mono hHeld.size)) (fun hHeld=>?_)
            clear hK K
            try simp only [Act.put,List.setIfInBounds_toArray,List.set_cons_zero,List.set_cons_succ]
            refine tk 36 207 ?_
            refine tk 37 208 ?_
            refine tk 38 6 ?_
            refine wpAnyH_done (by kernel_rfl) ?_ _
            have HB:=Lib.hid (hbW.out.1.trans (hHeld.mono hbW.out.2))
            clear hHeld k0 k1 k2 HSZ
            go_wp2
            go_ret
            exact ⟨rfl,HB.out⟩
      ·exact absurd HC2.out (by omega)
   ·exact absurd HC1.out (by omega)
