/-
  What the statement's proof rests on, part 42.
  Conditions: each theorem's own.
-/
import Derived.Test.YthhldceidmphfaaGreatDoorZw1
namespace Go.Proofs.YthhldceidmphfaaGreatDoor.U
open Go.ChangeShapes Go.WideShapes Go.ChangeAt Go.RowKit Go.Maps
def GoodC (B:Nat) (W:World) (p r:Nat) (A0:Ar) (kd:Bool) (m lb:Nat) (w:World):Prop :=
 ∃(J:Vk) (A:Ar) (S:Sh.Sf) (o:Nat→Int) (g:Gh) (D U:Set0) (F:Nat→Prop) (may:Nat→List Sh.Bs),J.B=B∧J.W=W∧J.p=p∧Akin A0 A∧Rig J w r A S o D U F kd may m∧Inv A S o g D U may kd∧LastOk A g may∧(∀j,j<A.St*(A.M-1)→(may j).length≤lb)∧S.off=false∧∀st,g.op st=none
section
variable {J:Vk} {w:World} {r m lb:Nat} {A:Ar} {S:Sh.Sf} {o:Nat→Int} {D U:Set0} {F:Nat→Prop} {kd:Bool} {may:Nat→List Sh.Bs} {gh:Gh}
set_option maxRecDepth 20000 in
set_option maxHeartbeats 8000000 in
theorem crash_on (h:Rig J w r A S o D U F kd may m) (hi:Inv A S o gh D U may kd) (hB:J.B=J.W.heap.size) (hT:Tbl J.B J.W) (hm:m≤400000000) (hlb:∀j,j<A.St*(A.M-1)→(may j).length≤lb) (hl:lb≤100000) (hlb1:1≤lb) (hN:A.St*(A.M-1)≤1000)
  (B0:Option Addr) (bn bc:Nat) {ks:List (List Int)} (hk:Sh.KeepIs J.W (Sh.Old J.W) B0 bn ks) (hbn:bn≤9223372036854775807) (stop:Int) (hs:stop<0) :
  Calls Tryz.prog 17 #[.pointer (some ⟨r,0,none⟩),.slice B0 bn bc,.int .i64 stop] w fun e w'=>e=.returned (.bool true)∧GoodC J.B J.W J.p r A kd 2000000 lb w':=by
 obtain ⟨q,cap,tq,g,off,c,G1⟩:=h.rg
 have RS:=G1.side
 obtain ⟨c0,_⟩:=RS.cells
 have HCR:=Lib.hid (Sh.crash_of hB h.vr.vo.ds.on B0 bn bc hk hbn (fun k hk=>by have:=h.few.waits k hk;omega))
 have HRS:=Lib.hid (And.intro RS (And.intro h.vr hi))
 have hs2:decide (stop≥0)=false:=decide_eq_false (by omega)
 clear h hi G1 RS
 go_enter Tryz.func17,Tryz.ntmps17
 go_wp2_with fail
 refine HCR.out.mono ?_
 rintro e w1 ⟨rfl,hleft⟩
 obtain ⟨RS,hv,hi⟩:=HRS.out
 obtain ⟨F1,a1,mv1⟩:=hv.vo.ds.on.left hleft
 have RS1:=RS.moves mv1
 obtain ⟨c1,_⟩:=RS1.cells
 have hrst:=hi.crash ks
 have HOP:=Lib.hid (rst_open hrst a1 hT (crash_waits S ks))
 have HK1:=Lib.hid (And.intro RS1 (And.intro hrst (pw_crash S ks)))
 clear RS hv hi a1 mv1 RS1 hrst hleft HRS HCR c0
 go_wp2_with fail
 refine HOP.out.mono ?_
 rintro e w2 ⟨y,t,hO,hres⟩
 obtain ⟨RS1,hrst,hpw⟩:=HK1.out
 obtain ⟨rfl,hpt,d0,g',hd0,hnw,hinv,hop⟩:=hrst.opens hpw hO
 rcases hres with ⟨h0,_⟩ | ⟨_,J2,F2,rfl,e1,e2,e3,e4,e5,V2,mv2⟩
 ·exact absurd rfl h0
 ·have hw:∀x∈t.S.disks,x.waits.length≤2000:=by
   have:=OpenR.waits (m:=0) hrst.rest.ci.ar.n17 (fun _=>by
    rw [hnw]
    show A.s.logs.toNat≤8
    rw [hrst.said.logs]
    exact hrst.rest.ci.ar.l8) hO (crash_waits S ks)
   exact waits_more (by omega) this
  have hLL:(J2.L:Int)=(A.L:Int):=by
   rw [← e5,hnw]
   exact hrst.said.logs
  rw [hnw] at V2
  have hne:∀j,j<A.St*(A.M-1)→may j≠[]:=fun j hj e=>by
   have:=(hinv.mays j hj).1
   rw [e] at this
   cases this
  have hN0:0<A.St*(A.M-1):=Nat.mul_pos hrst.said.st1 (by have:=hrst.rest.ci.ar.m3;omega)
  have hAk:Akin A (A.as d0):=⟨rfl,rfl,rfl,rfl⟩
  have RS2:RgS J2.B J2.p J.v w1 r q cap tq (A.as d0) kd may F1 g off c:=by
   rw [e1,e3]
   exact ⟨RS1.row,RS1.may,RS1.low,RS1.out⟩
  have R3:=RS2.opened V2 mv2 hne hN0 e4 (show J2.L=A.L by omega) rfl (m:=2000) ⟨hw,⟨tidy_empty,Nat.zero_le _⟩,Nat.zero_le _⟩
  have hrow:=(RS2.moves mv2).row
  have k0:=cell_of_row _ _ 1 _ _ _ hrow
  have kf:=frozen_of_row _ _ 1 _ _ hrow
  have HST:=Lib.hid (settle_any R3 hinv hpt.1 (by rw [e2];exact hT.tabs) (by rw [e1];exact hT.tb) hN hlb hl (by omega))
  have HE:=Lib.hid (And.intro e1 (And.intro e2 (And.intro e3 hAk)))
  have HI:=Lib.hid (And.intro hinv hop)
  clear RS1 hrst hpw hpt hnw hinv hop hO mv2 V2 hw hLL hne hN0 hAk RS2 R3 hrow HOP HK1 c1
  go_wp2_with fail
  refine HST.out.mono ?_
  rintro e w4 ⟨rfl,S4,o4,F4,R4,I4,on4⟩
  have HF:=Lib.hid (And.intro R4 (And.intro I4 on4))
  clear R4 I4 on4 HST k0 kf
  go_wp2
  go_ret
  obtain ⟨R4,I4,on4⟩:=HF.out
  obtain ⟨e1,e2,e3,hAk⟩:=HE.out
  obtain ⟨I5,L5⟩:=settled I4 HI.out.2
  refine ⟨rfl,J2,A.as d0,S4,o4,g',noSet,noSet,F4,_,e1,e2,e3,hAk,⟨R4.vr,R4.few.more ?_,R4.n,R4.L,R4.rg⟩,I5,L5,(fun j hj=>?_),on4,HI.out.2⟩
  ·have:(A.as d0).St*((A.as d0).M-1)≤1000:=hN
   omega
  ·unfold setTo
   rw [if_pos hj]
   exact hlb1
theorem whole_v (hi:Inv A S o gh D U may false) (hon:S.off=false) {st:Nat} (hst:st<A.St) :
  wholeV (tog A.s A.M (A.at st) st (fun _=>true) S A.M)=.tuple #[.bool true,.int .i64 0]:=by
 have hfi:=(hi.on hon).fi
 obtain ⟨h1,h2,h3⟩:=tog_there (s:=A.s) (M:=A.M) (k:=A.at st) (st:=st) (tk:=fun _=>true) hon (gh.dat st) fun m hm _=>(hfi.now st hst m hm).elim id fun e=>absurd e.1 (hi.kds rfl st m)
 have e:(tog A.s A.M (A.at st) st (fun _=>true) S A.M).2.1=Sh.noughts:=sec_ext h2 Sh.noughts_sec.1 fun i hi2=>by
  rw [h3 i hi2,noughts_at]
  exact hi.ci.ok.sum st hst i hi2
 unfold wholeV
 rw [if_pos h1,e,decide_eq_true rfl]
set_option maxRecDepth 20000 in
theorem hasStripe_no {s:Go.Proofs.YthhldceidmphfaaGreatDoor.S.Sup} {M St:Nat} (h:Vr J w s o S F D U) (hf:Fits J.n J.L s M St S) (_hst:St≤1024):Calls Tryz.prog 48 #[.pointer (some ⟨J.v,0,none⟩),.int .i64 St] w fun e w'=>e=.returned (.bool false)∧w=w':=by
 have c4:=cell_of_row _ _ 4 _ _ _ h.vo.vol.root
 simp only [List.getElem?_toArray,List.getElem?_cons_zero,List.getElem?_cons_succ,hf.str] at c4
 clear h hf
 go_enter Tryz.func48,Tryz.ntmps48
 go_wp2
 go_ret
 refine ⟨?_,rfl⟩
 first | rfl | (show Ending.returned (Value.bool (decide (St<St)))=_;rw [decide_eq_false (Nat.lt_irrefl St)])
theorem whole_no {s:Go.Proofs.YthhldceidmphfaaGreatDoor.S.Sup} {M St:Nat} (h:Vr J w s o S F D U) (hf:Fits J.n J.L s M St S) (hst:St≤1024):Calls Tryz.prog 18 #[.pointer (some ⟨J.v,0,none⟩),.int .i64 St] w fun e w'=>e=.returned (.tuple #[.bool false,.int .i64 1])∧w=w':=by
 have HS:=Lib.hid (hasStripe_no h hf hst)
 clear h hf
 go_enter Tryz.func18,Tryz.ntmps18
 go_wp2_with (go_at_call 48;refine HS.out.mono ?_;rintro e w' ⟨rfl,rfl⟩)
 go_ret2
 exact ⟨rfl,rfl⟩
end
def WhI (J:Vk) (r:Nat) (A:Ar) (o:Nat→Int) (g:Gh) (D U:Set0) (may:Nat→List Sh.Bs) (w:World):Prop:=∃S F,Rig J w r A S o D U F false may 2000000∧Inv A S o g D U may false∧S.off=false
theorem WhI.bel {J:Vk} {r:Nat} {A:Ar} {o:Nat→Int} {g:Gh} {D U:Set0} {may:Nat→List Sh.Bs} {w:World} (h:WhI J r A o g D U may w):Below J.B J.W w∧J.B≤w.heap.size:=by
 obtain ⟨S,F,R,_⟩:=h
 exact ⟨R.vr.bel,R.vr.size⟩
theorem WhI.cells {J:Vk} {r:Nat} {A:Ar} {o:Nat→Int} {g:Gh} {D U:Set0} {may:Nat→List Sh.Bs} {w:World} (h:WhI J r A o g D U may w):w.cell? ⟨r,1,none⟩=some (.pointer (some ⟨J.v,0,none⟩))∧w.cell? ⟨r,3,none⟩=some (.int .i64 A.St):=by
 obtain ⟨S,F,R,_⟩:=h
 obtain ⟨q,cap,tq,gg,off,c,G⟩:=R.rg
 exact ⟨cell_of_row _ _ 1 _ _ _ G.row,cell_of_row _ _ 3 _ _ _ G.row⟩
theorem WhI.grown {J:Vk} {r:Nat} {A:Ar} {o:Nat→Int} {g:Gh} {D U:Set0} {may:Nat→List Sh.Bs} {w w':World} (h:WhI J r A o g D U may w) (hb:Below w.heap.size w w'):WhI J r A o g D U may w':=by
 obtain ⟨S,F,R,I,on⟩:=h
 exact ⟨S,F,R.grown hb,I,on⟩
theorem WhI.look {J:Vk} {r:Nat} {A:Ar} {o:Nat→Int} {g:Gh} {D U:Set0} {may:Nat→List Sh.Bs} {w:World} (h:WhI J r A o g D U may w) (hT:Tbl J.B J.W) {st:Nat} (hst:st<A.St) :
  Calls Tryz.prog 18 #[.pointer (some ⟨J.v,0,none⟩),.int .i64 st] w fun e w'=>e=.returned (.tuple #[.bool true,.int .i64 0])∧WhI J r A o g D U may w':=by
 obtain ⟨S,F,R,I,on⟩:=h
 have hF:Fits J.n J.L A.s A.M A.St S:=R.fits I
 refine (whole_any R.vr hF hT.tabs hT.tb st hst).mono ?_
 rintro e w' ⟨rfl,V2,o2⟩
 have hv:=whole_v I on hst
 have hs:Same S (tog A.s A.M (2+2*J.L+st) st (fun _=>true) S A.M).1:=tog_same A.M
 rw [show A.at st=2+2*J.L+st by unfold Ar.at;rw [R.L]] at hv
 rw [hv]
 refine ⟨rfl,_,F,⟨V2,⟨waits_same hs R.few.waits,R.few.opens,R.few.used⟩,R.n,R.L,R.rg.moves ⟨o2,fun b e=>.inl e⟩⟩,⟨I.ci.same hs,I.said,I.ld.dead (fun d=>dead_same hs d),I.kds,I.mays,fun _=>(I.on on).same hs⟩,hs.off.trans on⟩
theorem WhI.beyond {J:Vk} {r:Nat} {A:Ar} {o:Nat→Int} {g:Gh} {D U:Set0} {may:Nat→List Sh.Bs} {w:World} (h:WhI J r A o g D U may w) :
  Calls Tryz.prog 18 #[.pointer (some ⟨J.v,0,none⟩),.int .i64 A.St] w fun e w'=>e=.returned (.tuple #[.bool false,.int .i64 1])∧w=w':=by
 obtain ⟨S,F,R,I,on⟩:=h
 have hF:Fits J.n J.L A.s A.M A.St S:=R.fits I
 exact whole_no R.vr hF I.ci.ar.s2
section
variable {B:Nat} {W w:World} {p r m lb:Nat} {A:Ar}
theorem do_some (h:Good B W p r A false m lb w) (hB:B=W.heap.size) (hT:Tbl B W) (hm:m≤4000000) (hm2:2000000≤m) (hl:lb≤1000) (hl1:1≤lb) (hN:A.St*(A.M-1)≤1000) (v:Sh.Op8) (hk:2≤v.kind∧v.kind≤5)
  (hv1:Sh.I64 v.n) (hv3:v.x<256) (hv4:v.m≤9223372036854775807) (hv5:Sh.KeepIs W (Sh.Old W) v.A v.m v.ks) :
  Calls Tryz.prog 16 #[.pointer (some ⟨r,0,none⟩),opV v] w fun e w'=>e=.returned (.bool true)∧Good B W p r A false (m+1000) (lb+1) w':=by
 obtain ⟨J,A2,S,o,g,D,U,F,may,rfl,rfl,rfl,ak,R,I,L,hlb⟩:=h
 have hN2:A2.St*(A2.M-1)≤1000:=by rw [ak.St,ak.M];exact hN
 have hk:v.kind=2∨v.kind=3∨v.kind=4∨v.kind=5:=by omega
 rcases hk with e | e | e | e
 ·exact (do_write R I L hlb (by omega) hT (by omega) hN2 v e hv1 hv3).mono fun _ _ h=>⟨h.1,h.2.akin ak⟩
 ·exact (do_flush R I L hlb (by omega) hT (by omega) hN2 v e).mono fun _ _ h=>⟨h.1,(h.2.akin ak).more (Nat.le_refl _) (by omega)⟩
 ·exact (do_stop R I L hlb v e hv1).mono fun _ _ h=>⟨h.1,(h.2.akin ak).more (by omega) (by omega)⟩
 ·exact (do_crash R I hlb (by omega) hl1 hB hT (by omega) hN2 v e hv5 hv4).mono fun _ _ h=>⟨h.1,(h.2.akin ak).more (by omega) (by omega)⟩
theorem crash_c (h:Good B W p r A false m lb w) (hB:B=W.heap.size) (hT:Tbl B W) (hm:m≤4000000) (hl:lb≤1000) (hl1:1≤lb) (hN:A.St*(A.M-1)≤1000) (A0:Option Addr) (n c:Nat) {ks:List (List Int)} (hk:Sh.KeepIs W (Sh.Old W) A0 n ks) (hn:n≤9223372036854775807) :
  Calls Tryz.prog 17 #[.pointer (some ⟨r,0,none⟩),.slice A0 n c,.int .i64 (-1)] w fun e w'=>e=.returned (.bool true)∧∃(J:Vk) (A2:Ar) (o:Nat→Int) (g:Gh) (D U:Set0) (may:Nat→List Sh.Bs),J.B=B∧J.W=W∧Akin A A2∧WhI J r A2 o g D U may w':=by
 obtain ⟨J,A2,S,o,g,D,U,F,may,rfl,rfl,rfl,ak,R,I,L,hlb⟩:=h
 have hN2:A2.St*(A2.M-1)≤1000:=by rw [ak.St,ak.M];exact hN
 refine (crash_on R I hB hT (by omega) hlb (by omega) hl1 hN2 A0 n c hk hn (-1) (by decide)).mono fun _ _ h=>⟨h.1,?_⟩
 obtain ⟨J3,A3,S3,o3,g3,D3,U3,F3,may3,e1,e2,e3,e4,e5,e6,e7,e8,e9,_⟩:=h.2
 exact ⟨J3,A3,o3,g3,D3,U3,may3,e1,e2,ak.trans e4,S3,F3,e5,e6,e9⟩
end
end Go.Proofs.YthhldceidmphfaaGreatDoor.U
