/-
  What the statement's proof rests on, part 36.
  Conditions: each theorem's own.
-/
import Derived.Test.YtcnjpmcelihknaaGreatDoorV35
import Derived.Test.YtcnjpmcelihknaaGreatDoorVtk
open Go.Lib (hid)
open Go.Proofs.YtcnjpmcelihknaaGreatDoor.S renaming Sup → SuP
namespace Go.Proofs.YtcnjpmcelihknaaGreatDoor.U
open Go.RowKit Go.Maps
theorem tog_sec {n L M St:Nat} {s:SuP} {S:Sh.Sf} (hf:Fits n L s M St S) {st k:Nat} {tk:Nat->Bool} (hV:∀d,d<n->Sh.Sec (V S d (dataOf k))) {j:Nat} (hj:j<=M):Sh.Sec (tog s M k st tk S j).2.1:=by
 induction j with
 | zero=>exact Sh.noughts_sec
 | succ j ih =>
  have h1:=ih (by omega)
  unfold tog
  simp only
  split
  ·exact h1
  ·show Sh.Sec (if _ then _ else _)
   split
   ·rw [(tog_same (s:=s) (M:=M) (k:=k) (st:=st) (tk:=tk) (S:=S) j).V]
    exact xorL_sec h1 (hV _ (hf.num_lt st (by omega)))
   ·exact h1
theorem partR_sec {n L M St:Nat} {s:SuP} {S:Sh.Sf} (hf:Fits n L s M St S) {st k a b:Nat} (hV:∀d,d<n->Sh.Sec (V S d (dataOf k))):Sh.Sec (partR s M k st a b S).2.1:=by
 unfold partR
 split
 ·exact tog_sec hf hV (Nat.le_refl _)
 ·have hs:=tog_same (s:=s) (M:=M) (k:=k) (st:=st) (tk:=tkNeither a b) (S:=S) M
  exact tog_sec (hf.same hs.len hs.sectors) (fun d hd=>by rw [hs.V];exact hV d hd) (Nat.le_refl _)
inductive WbR (n L:Nat) (s:SuP) (M k st a pl b:Nat) (x:Sh.Bs) (D U:Set0) (S:Sh.Sf) (o:Nat->Int):Int->Stt->Set0->Set0->Prop
 | lack:(partR s M k st a b S).2.2≠0->WbR n L s M k st a pl b x D U S o (partR s M k st a b S).2.2 ⟨(partR s M k st a b S).1,o⟩ D U
 | recd (y:Int) (a1:Stt) (D1 U1:Set0):(partR s M k st a b S).2.2=0->RecR n L (numOf s M st b) (partR s M k st a b S).2.1 (headL (numF st pl (Nums.sum 0 (partR s M k st a b S).2.1))) ⟨(partR s M k st a b S).1,o⟩ D U y a1 D1 U1->y≠0->WbR n L s M k st a pl b x D U S o y a1 D1 U1
 | data (y:Int) (a1:Stt) (D1 U1:Set0) (z:Int) (S2:Sh.Sf):(partR s M k st a b S).2.2=0->RecR n L (numOf s M st b) (partR s M k st a b S).2.1 (headL (numF st pl (Nums.sum 0 (partR s M k st a b S).2.1))) ⟨(partR s M k st a b S).1,o⟩ D U 0 a1 D1 U1->DW a1.S (numOf s M st a) (a1.o (numOf s M st a)) k x y z S2->y≠0 ->
   WbR n L s M k st a pl b x D U S o y ⟨S2,put1 a1.o (numOf s M st a) z⟩ (D1.put (.int .i64 st) one0) U1
 | both (y:Int) (a1:Stt) (D1 U1:Set0) (z z3:Int) (S2 S3:Sh.Sf):(partR s M k st a b S).2.2=0->RecR n L (numOf s M st b) (partR s M k st a b S).2.1 (headL (numF st pl (Nums.sum 0 (partR s M k st a b S).2.1))) ⟨(partR s M k st a b S).1,o⟩ D U 0 a1 D1 U1->DW a1.S (numOf s M st a) (a1.o (numOf s M st a)) k x 0 z S2 ->
   DW S2 (numOf s M st b) (put1 a1.o (numOf s M st a) z (numOf s M st b)) k (xorL (partR s M k st a b S).2.1 x) y z3 S3 ->
   WbR n L s M k st a pl b x D U S o y ⟨S3,put1 (put1 a1.o (numOf s M st a) z) (numOf s M st b) z3⟩ ((D1.put (.int .i64 st) one0).put (.int .i64 st) one0) U1
theorem RecTail.len {d k:Nat} {l hd:Sh.Bs} {a b:Stt} {D U D' U':Set0} {y:Int} (h:RecTail d k l hd a D U y b D' U'):b.S.disks.length=a.S.disks.length/\b.S.sectors=a.S.sectors:=by
 obtain ⟨_,_,z,o1,S1,h1,⟨_,_,rfl⟩ | ⟨_,_,rfl⟩⟩:=h
 ·exact ⟨h1.len,h1.sectors⟩
 ·exact ⟨(fl_length _ _).trans h1.len,(fl_sectors _ _).trans h1.sectors⟩
theorem RecTail.waits {d k m:Nat} {l hd:Sh.Bs} {a b:Stt} {D U D' U':Set0} {y:Int} (h:RecTail d k l hd a D U y b D' U') (hL:∀x∈a.S.disks,x.waits.length<=m):∀x∈b.S.disks,x.waits.length<=m+6:=by
 obtain ⟨_,_,z,o1,S1,h1,⟨_,_,rfl⟩ | ⟨_,_,rfl⟩⟩:=h
 ·exact h1.waits hL
 ·exact fl_lens (h1.waits hL)
theorem RecR.len {n L d:Nat} {l hd:Sh.Bs} {a b:Stt} {D U D' U':Set0} {y:Int} (h:RecR n L d l hd a D U y b D' U'):b.S.disks.length=a.S.disks.length/\b.S.sectors=a.S.sectors:=by
 rcases h with ⟨_,h⟩ | ⟨_,y1,a1,D1,U1,h1,⟨_,_,rfl,_,_⟩ | ⟨_,h2⟩⟩
 ·exact h.len
 ·exact h1.len
 ·exact ⟨h2.len.1.trans h1.len.1,h2.len.2.trans h1.len.2⟩
theorem RecR.waits {n L d m:Nat} {l hd:Sh.Bs} {a b:Stt} {D U D' U':Set0} {y:Int} (h:RecR n L d l hd a D U y b D' U') (hn:n<=17) (h8:L<=8) (hL:∀x∈a.S.disks,x.waits.length<=m):∀x∈b.S.disks,x.waits.length<=m+414:=by
 rcases h with ⟨_,h⟩ | ⟨_,y1,a1,D1,U1,h1,⟨_,_,rfl,_,_⟩ | ⟨_,h2⟩⟩
 ·intro x hx;have:=h.waits hL x hx;omega
 ·intro x hx;have:=h1.waits hn h8 hL x hx;omega
 ·exact h2.waits (h1.waits hn h8 hL)
theorem size_put_le {D:Set0} {k:TypeId} {w:World} {b:Nat} (h:SetIs w k b D) (K:Keyed Tryz.prog k) {kl:Lit}:Maps.size (D.put kl one0)<=Maps.size D+1:=by
 rw [Maps.size_put (h.tidy K)]
 split<;>omega
section
variable {J:Vk} {w w':World} {s:SuP} {o:Nat->Int} {S:Sh.Sf} {F:Nat->Prop} {D U:Set0} {M St:Nat}
theorem RecQ.sizes {d mm:Nat} {l hd:Sh.Bs} {a b:Stt} {D' U':Set0} {y:Int} {n L:Nat} (h:RecR n L d l hd a D U y b D' U') (hD:Maps.size D<=mm) (hU:Maps.size U<=mm):Maps.size D'<=mm:=by
 rcases h with ⟨_,⟨rfl,_⟩⟩ | ⟨_,y1,a1,D1,U1,h1,⟨_,_,_,rfl,_⟩ | ⟨_,⟨rfl,_⟩⟩⟩
 ·exact hD
 ·exact (h1.sets hD hU).1
 ·exact (h1.sets hD hU).1
theorem Vr.secs (h:Vr J w s o S F D U) (hf:Fits J.n J.L s M St S) {k:Nat} (hk:k<2+2*J.L+St):∀d,d<J.n->Sh.Sec (V S d (dataOf k)):=fun d hd =>
 h.sec (by rw [hf.len];exact hd) (sum_of_lt (show k<blk S.sectors by have:=hf.need;omega)).1
def WbQ (J:Vk) (w:World) (s:SuP) (o:Nat->Int) (S:Sh.Sf) (F:Nat->Prop) (D U:Set0) (M st a pl b:Nat) (x:Sh.Bs) (y:Int) (w':World):Prop :=
 ∃e D' U',WbR J.n J.L s M (2+2*J.L+st) st a pl b x D U S o y e D' U'/\RGoes J w w' s e.o e.S F D' U'
def Sb (q0 q1 st pl:Nat) (B:Option Addr) (c:Nat) (W':World):Prop:=W'.cell? ⟨q0,0,none⟩=some (.int .i64 st)/\W'.cell? ⟨q1,0,none⟩=some (.int .i64 st)/\W'.cell? ⟨q1,1,none⟩=some (.int .i64 pl)/\W'.cell? ⟨q1,2,none⟩=some (.slice B 128 c)
theorem sb_goes {w2:World} {F2:Nat->Prop} {q0 q1 st pl c:Nat} {B:Option Addr} (h:Sb q0 q1 st pl B c w) (h0:q0<w.heap.size/\¬AllV J F q0) (h1:q1<w.heap.size/\¬AllV J F q1) (m:Sh.Moves (AllV J F) w (AllV J F2) w2):Sb q0 q1 st pl B c w2 :=
 ⟨(m.1.cell (p:=⟨q0,0,none⟩) h0.1 h0.2).trans h.1,(m.1.cell (p:=⟨q1,0,none⟩) h1.1 h1.2).trans h.2.1,(m.1.cell (p:=⟨q1,1,none⟩) h1.1 h1.2).trans h.2.2.1,(m.1.cell (p:=⟨q1,2,none⟩) h1.1 h1.2).trans h.2.2.2⟩
set_option maxRecDepth 20000 in
set_option maxHeartbeats 4000000 in
theorem writeBoth_any (h:Vr J w s o S F D U) (hf:Fits J.n J.L s M St S) (hT:Tabs J.W) (hTB:max 0 1+1<=J.B) (hFl:Flds J.W) (hFB:4+1<=J.B) (st a pl b:Nat) (hst:st<St) (ha:a<M) (hpl:pl<15) (hb:b<M)
  {A:Option Addr} {c mm:Nat} {x:Sh.Bs} (hx:Sh.Sec x) (hA:Sh.Beside w (AllV J F) A x) (hL:∀x∈S.disks,x.waits.length<=mm) (hD:Maps.size D<=mm) (hU:Maps.size U<=mm) (hmm:mm<=600000000) :
  Calls Tryz.prog 148 #[.pointer (some ⟨J.v,0,none⟩),spotV st a pl,.int .i64 b,.slice A 128 c] w fun e w'=>∃y:Int,e=.returned (.int .i64 y)/\WbQ J w s o S F D U M st a pl b x y w':=by
 have hb0:Below w.heap.size w (w.alloc (.cells #[.int .i64 st,.int .i64 a,.int .i64 pl] 193)):=(Below.refl _ _).alloc (Nat.le_refl _) _
 have q0:=heap_alloc_new w (.cells #[.int .i64 st,.int .i64 a,.int .i64 pl] 193)
 have V0:=h.grown hb0
 have HP:=hid (part_any V0 hf hT hTB st a pl b hst)
 have hsec:=partR_sec (st:=st) (a:=a) (b:=b) hf (h.secs hf (show 2+2*J.L+st<2+2*J.L+St by omega))
 have hsame:Same S (partR s M (2+2*J.L+st) st a b S).1:=partR_same
 generalize hpr:partR s M (2+2*J.L+st) st a b S=pr at *
 obtain ⟨S1,x1,y1⟩:=pr
 simp only at HP hsec hsame
 have HPE:=hid hpr
 have HH:=hid (And.intro h (And.intro hf (And.intro hA (And.intro hL (And.intro hD hU)))))
 have HQ:=hid (And.intro q0 (And.intro hb0 (fun e=>Nat.lt_irrefl _ (h.lt w.heap.size e))))
 have HF1:=hid (hf.same hsame.len hsame.sectors)
 have HL1:Hid (∀x∈S1.disks,x.waits.length<=mm):=hid (by rw [hsame.disks];exact hL)
 have h17:J.n<=17:=by
  obtain ⟨D0,gs,q⟩:=h.vo.ds.on.shelf
  have:=q.most
  have:=hf.len
  omega
 have hL8:=hf.l2
 have hst2:st<1024:=by have:=hf.s2;omega
 obtain ⟨r0,r1,r2,_⟩:=cells3_of q0
 unfold spotV at *
 clear h hf hA hL hD hU hb0 q0 V0 hsame hpr
 go_enter Tryz.func148,Tryz.ntmps148
 go_wp2_with fail
 generalize w.alloc (.cells #[.int .i64 st,.int .i64 a,.int .i64 pl] 193)=w0 at *
 refine HP.out.mono ?_
 rintro e w1 ⟨⟨B1,n1,c1,rfl,hX⟩,hS1⟩
 clear r0 r1 r2 HP
 by_cases h1:y1=0
 ·subst h1
  obtain ⟨hn1,hBy⟩:n1=128/\Sh.Bytes w0 w1 B1 x1:=by
   rcases hX with ⟨_,h1,h2⟩ | ⟨h1,_⟩
   ·exact ⟨h1,h2⟩
   ·exact absurd rfl h1
  subst hn1
  obtain ⟨h,hf,hA,hL,hD,hU⟩:=HH.out
  obtain ⟨q0,hb0,hn0⟩:=HQ.out
  have V0:=h.grown hb0
  have hbe:=V0.beside_new hBy
  have hm1:Sh.Moves (AllV J F) w (AllV J F) w1:=(moves_grown hb0).trans ⟨hS1.2,fun _ e=>.inl e⟩
  obtain ⟨hq01,hn01⟩:=beside_goes q0 hn0 (⟨hS1.2,fun _ e=>.inl e⟩:Sh.Moves (AllV J F) w0 (AllV J F) w1)
  have hbw:Below w1.heap.size w1 (w1.alloc (.cells #[.int .i64 st,.int .i64 pl,.slice B1 128 c1] 240)):=(Below.refl _ _).alloc (Nat.le_refl _) _
  have hq1:=heap_alloc_new w1 (.cells #[.int .i64 st,.int .i64 pl,.slice B1 128 c1] 240)
  have hn1:¬AllV J F w1.heap.size:=fun e=>Nat.lt_irrefl _ (hS1.1.lt _ e)
  have hbd:=hbw.trans ((drew_below (w1.alloc (.cells #[.int .i64 st,.int .i64 pl,.slice B1 128 c1] 240))).mono hbw.size)
  have V1:=hS1.1.grown hbd
  have hmd:=hm1.trans (moves_grown (G:=AllV J F) hbd)
  have hq02:=(hbw.block _ (lt_of_block hq01)).trans hq01
  have HN:=hid (numberOf_ok V1.vo.vol hf.mem st b)
  have hdb:=hf.num_lt st hb
  have HREC:=hid (record_any V1 HF1.out hT hTB hFl hFB (numOf s M st b) hdb st pl hst2 hpl (c:=c1) hsec (hbe.moves (moves_grown (G:=AllV J F) hbd)) HL1.out hU hD (by omega))
  have HQ1:Hid ((w.heap.size<(w1.alloc (.cells #[.int .i64 st,.int .i64 pl,.slice B1 128 c1] 240)).drew.heap.size/\¬AllV J F w.heap.size)/\(w1.heap.size<(w1.alloc (.cells #[.int .i64 st,.int .i64 pl,.slice B1 128 c1] 240)).drew.heap.size/\¬AllV J F w1.heap.size)):=hid ⟨⟨lt_of_block hq02,hn0⟩,⟨lt_of_block hq1,hn1⟩⟩
  obtain ⟨k0,k1,k2,_⟩:=cells3_of hq01
  have hSb:Sb w.heap.size w1.heap.size st pl B1 c1 (w1.alloc (.cells #[.int .i64 st,.int .i64 pl,.slice B1 128 c1] 240)).drew:=⟨(cells3_of hq02).1,(cells3_of hq1).1,(cells3_of hq1).2.1,(cells3_of hq1).2.2.1⟩
  have HK:=hid (And.intro hbe (And.intro hmd (And.intro hq02 hbd)))
  have i0:=fun (W':World) (h:Sb w.heap.size w1.heap.size st pl B1 c1 W')=>h.1
  have i1:=fun (W':World) (h:Sb w.heap.size w1.heap.size st pl B1 c1 W')=>h.2.1
  have i2:=fun (W':World) (h:Sb w.heap.size w1.heap.size st pl B1 c1 W')=>h.2.2.1
  have i3:=fun (W':World) (h:Sb w.heap.size w1.heap.size st pl B1 c1 W')=>h.2.2.2
  clear h hf hA hL hD hU q0 hb0 hn0 V0 hbe hm1 hq01 hn01 hbw hq1 hn1 hbd V1 hmd hq02 hX hS1 hBy
  go_wp2_with fail
  generalize w1.alloc (.cells #[.int .i64 st,.int .i64 pl,.slice B1 128 c1] 240)=w1a at *
  refine wp_region_held_drew (S:=Sb w.heap.size w1.heap.size st pl B1 c1) (by kernel_rfl) hSb (fun hHeld=>?_)
  refine tk 0 30 ?_
  refine tk 1 31 ?_
  refine tk 2 32 ?_
  refine tk 3 33 ?_
  refine tk 4 34 ?_
  refine tk 6 36 ?_
  refine r1 5 (some 35) fun K hK=>?_
  go_simp
  refine (HN.out).mono ?_
  rintro e w' ⟨rfl,rfl⟩
  refine hK.out _ _ (hHeld) (fun hHeld=>?_)
  clear hK K
  try simp only [Act.put,List.setIfInBounds_toArray,List.set_cons_zero,List.set_cons_succ]
  refine r1 7 (some 37) fun K hK=>?_
  go_simp
  refine (HREC.out).mono ?_
  rintro e w2 ⟨y2,rfl,a2,D2,U2,hRR,F2,V2,m2⟩
  refine hK.out _ _ (sb_goes hHeld HQ1.out.1 HQ1.out.2 m2) (fun hHeld=>?_)
  clear hK K
  try simp only [Act.put,List.setIfInBounds_toArray,List.set_cons_zero,List.set_cons_succ]
  refine tk 8 12 ?_
  refine wpAnyH_done (by kernel_rfl) ?_ _
  obtain ⟨hbe,hmd,hq02,hbd⟩:=HK.out
  have hs6:w1a.drew.heap[w.heap.size]?=some (.cells #[.int .i64 st,.int .i64 a,.int .i64 pl] 193 (0,0)):=hq02
  obtain ⟨hq2,hn2⟩:=beside_goes hs6 HQ1.out.1.2 m2
  have hm2:=hmd.trans m2
  have hbe2:=(hbe.moves (moves_grown (G:=AllV J F) hbd)).moves m2
  clear hHeld hSb i0 i1 i2 i3 HREC HN k0 k1 k2 hbe hmd hq02 hbd hs6
  by_cases h2:y2=0
  ·subst h2
   have HRR:=hid hRR
   have hlen2:=hRR.len
   have hwt2:=hRR.waits h17 hL8 HL1.out
   have hsz2:=RecQ.sizes hRR HH.out.2.2.2.2.1 HH.out.2.2.2.2.2
   have hf2:=HF1.out.same hlen2.1 hlen2.2
   have hA2:=HH.out.2.2.1.moves hm2
   have HCH:=hid (change_any V2 hf2 hT hTB st a hst ha (c:=c) hx hA2 hwt2 (Nat.le_trans hsz2 (Nat.le_add_right _ _)) (by omega))
   obtain ⟨k0,k1,_,_⟩:=cells3_of hq2
   have HK2:=hid (And.intro hm2 (And.intro hbe2 (And.intro hq2 (And.intro hn2 (And.intro hf2 (And.intro hwt2 (And.intro hA2 (And.intro V2 hsz2))))))))
   clear hRR V2 m2 hm2 hbe2 hq2 hn2 hlen2 hwt2 hsz2 hf2 hA2
   go_wp2_with fail
   refine HCH.out.mono ?_
   rintro e w3 ⟨y3,rfl,x3,S3,hD3,F3,V3,m3⟩
   clear HCH k0 k1
   by_cases h3:y3=0
   ·subst h3
    obtain ⟨hm2,hbe2,hq2,hn2,hf2,hwt2,hA2,V2,hsz2⟩:=HK2.out
    obtain ⟨hq3,hn3⟩:=beside_goes hq2 hn2 m3
    have hd3:=drew_below w3
    have V3d:=V3.grown hd3
    have hm3:=(hm2.trans m3).trans (moves_grown (G:=AllV J F3) hd3)
    have hbe3:=(hbe2.moves m3).moves (moves_grown (G:=AllV J F3) hd3)
    have hA3:=(hA2.moves m3).moves (moves_grown (G:=AllV J F3) hd3)
    have HXO:=hid (rxor_ok B1 A c1 c x1 x w3.drew hsec.2 hx.2 hbe3.1 hA3.1)
    have HQ4:=hid (And.intro (show w.heap.size<w3.drew.heap.size from lt_of_block hq3) hn3)
    have hwt3:=hD3.waits hwt2
    have hf3:=hf2.same hD3.len hD3.sectors
    have hst3:Maps.size (D2.put (.int .i64 st) one0)<=mm+417:=by
     have:=size_put_le (kl:=.int .i64 st) V2.opens lawInt2
     omega
    have HC2:Hid (∀(w4:World) (E:Option Addr) (f:Nat),w4.ownsRow w3.drew.heap.size 5 1 (.slice E 128 f) 128 (bts (xorL x1 x))->Below w3.drew.heap.size w3.drew w4->Calls Tryz.prog 146 #[.pointer (some ⟨J.v,0,none⟩),.int .i64 st,.int .i64 b,.slice E 128 f] w4 fun e w'=>∃y:Int,e=.returned (.int .i64 y)/\∃x4 S4,DW S3 (numOf s M st b) (put1 a2.o (numOf s M st a) x3 (numOf s M st b)) (2+2*J.L+st) (xorL x1 x) y x4 S4/\RGoes J w w' s (put1 (put1 a2.o (numOf s M st a) x3) (numOf s M st b) x4) S4 F ((D2.put (.int .i64 st) one0).put (.int .i64 st) one0) U2/\w'.cell? ⟨w.heap.size,0,none⟩=some (.int .i64 st)):=hid fun w4 E f hown hb4=>by
     have V4:=V3d.grown hb4
     have hby:Sh.Bytes w3.drew w4 E (xorL x1 x):=bytes_own hown (Nat.le_refl _)
     refine (change_any V4 hf3 hT hTB st b hst hb (c:=f) (xorL_sec hsec hx) (V3d.beside_new hby) hwt3 (by omega) (by omega)).mono ?_
     rintro e w5 ⟨y4,rfl,x4,S4,hD4,hG4⟩
     obtain ⟨F4,V4b,m4⟩:=hG4
     have hc0:=(m4.1.cell (p:=⟨w.heap.size,0,none⟩) (Nat.lt_of_lt_of_le (lt_of_block hq3) hb4.size) hn3).trans ((hb4.cell (p:=⟨w.heap.size,0,none⟩) (lt_of_block hq3)).trans (cells3_of hq3).1)
     exact ⟨y4,rfl,x4,S4,hD4,RGoes.trans (hm3.trans (moves_grown hb4)) ⟨F4,V4b,m4⟩,hc0⟩
    have k0:w3.drew.cell? ⟨w.heap.size,0,none⟩=some (.int .i64 st):=(cells3_of hq3).1
    have HD3:=hid hD3
    clear hD3 V3 m3 hm2 hbe2 hq2 hn2 hf2 hwt2 hA2 V2 hsz2 hq3 hn3 hd3 V3d hm3 hbe3 hA3 hwt3 hf3 hst3
    go_wp2_with fail
    refine wp_region_held_drew (S:=fun W'=>W'.cell? ⟨w.heap.size,0,none⟩=some (.int .i64 st)) (by kernel_rfl) k0 (fun hHeld=>?_)
    refine tk 0 51 ?_
    refine tk 1 52 ?_
    refine tk 2 53 ?_
    refine tk 3 54 ?_
    refine tk 4 55 ?_
    refine tk 5 56 ?_
    refine r1 6 (some 57) fun K hK=>?_
    go_simp
    refine (HXO.out).mono ?_
    rintro e w4 ⟨E,f,rfl,hown,hb4⟩
    refine hK.out _ _ ((hb4.cell (p:=⟨w.heap.size,0,none⟩) HQ4.out.1).trans hHeld) (fun hHeld=>?_)
    clear hK K
    try simp only [Act.put,List.setIfInBounds_toArray,List.set_cons_zero,List.set_cons_succ]
    have HCH2:=hid (HC2.out w4 E f hown hb4)
    refine r1 7 (some 58) fun K hK=>?_
    go_simp
    refine (HCH2.out).mono ?_
    rintro e w5 ⟨y4,rfl,x4,S4,hD4,hG4,hc9⟩
    refine hK.out _ _ (hc9) (fun hHeld=>?_)
    clear hK K
    try simp only [Act.put,List.setIfInBounds_toArray,List.set_cons_zero,List.set_cons_succ]
    refine tk 8 8 ?_
    refine wpAnyH_done (by kernel_rfl) ?_ _
    have HGG:=hid hG4
    have HR:=hid (WbR.both (n:=J.n) (L:=J.L) (s:=s) (M:=M) (k:=2+2*J.L+st) (st:=st) (a:=a) (pl:=pl) (b:=b) (x:=x) (D:=D) (U:=U) (S:=S) (o:=o) y4 a2 D2 U2 x3 x4 S3 S4 (by rw [HPE.out]) (by rw [HPE.out];exact HRR.out) HD3.out (by rw [HPE.out];exact hD4))
    clear hD4 hG4 hc9 hHeld hown hb4 HCH2
    go_wp2
    go_ret
    exact ⟨y4,rfl,_,_,_,HR.out,HGG.out⟩
   ·have hq:(y3 != 0)=true:=by simpa using h3
    have hqq:(y3 == 0)=false:=by simpa using h3
    have HG:=hid (RGoes.trans (HK2.out.1.trans m3) (RGoes.here V3 (Below.refl _ w3)))
    have HR:=hid (WbR.data (n:=J.n) (L:=J.L) (s:=s) (M:=M) (k:=2+2*J.L+st) (st:=st) (a:=a) (pl:=pl) (b:=b) (x:=x) (D:=D) (U:=U) (S:=S) (o:=o) y3 a2 D2 U2 x3 S3 (by rw [HPE.out]) (by rw [HPE.out];exact HRR.out) hD3 h3)
    clear hD3 V3 m3 h3
    go_wp2
    go_ret
    exact ⟨y3,rfl,_,_,_,HR.out,HG.out⟩
  ·have hq:(y2 != 0)=true:=by simpa using h2
   have hqq:(y2 == 0)=false:=by simpa using h2
   have HG:=hid (RGoes.trans hm2 (RGoes.here V2 (Below.refl _ w2)))
   have HR:=hid (WbR.recd (n:=J.n) (L:=J.L) (s:=s) (M:=M) (k:=2+2*J.L+st) (st:=st) (a:=a) (pl:=pl) (b:=b) (x:=x) (D:=D) (U:=U) (S:=S) (o:=o) y2 a2 D2 U2 (by rw [HPE.out]) (by rw [HPE.out];exact hRR) h2)
   clear hRR V2 m2 hm2 hbe2 hq2 hn2 h2
   go_wp2
   go_ret
   exact ⟨y2,rfl,a2,D2,U2,HR.out,HG.out⟩
 ·have hq:(y1 != 0)=true:=by simpa using h1
  have hq2:(y1 == 0)=false:=by simpa using h1
  have HG:=hid (RGoes.trans (moves_grown HQ.out.2.1) hS1.goes)
  have H1:=hid h1
  clear hX hS1 h1
  go_wp2
  go_ret
  exact ⟨y1,rfl,⟨S1,o⟩,D,U,by have:=WbR.lack (n:=J.n) (L:=J.L) (s:=s) (M:=M) (k:=2+2*J.L+st) (st:=st) (a:=a) (pl:=pl) (b:=b) (x:=x) (D:=D) (U:=U) (S:=S) (o:=o) (by rw [HPE.out];exact H1.out);rw [HPE.out] at this;exact this,HG.out⟩
end
inductive WpR (s:SuP) (M k st a b:Nat) (x:Sh.Bs) (D U:Set0) (S:Sh.Sf) (o:Nat->Int):Int->Stt->Set0->Set0->Prop
 | lack:(tog s M k st (tkNeither a b) S M).2.2≠0->WpR s M k st a b x D U S o (tog s M k st (tkNeither a b) S M).2.2 ⟨(tog s M k st (tkNeither a b) S M).1,o⟩ D U
 | done (y z:Int) (S2:Sh.Sf):(tog s M k st (tkNeither a b) S M).2.2=0->DW (tog s M k st (tkNeither a b) S M).1 (numOf s M st b) (o (numOf s M st b)) k (xorL (tog s M k st (tkNeither a b) S M).2.1 x) y z S2->WpR s M k st a b x D U S o y ⟨S2,put1 o (numOf s M st b) z⟩ (D.put (.int .i64 st) one0) U
section
variable {J:Vk} {w w':World} {s:SuP} {o:Nat->Int} {S:Sh.Sf} {F:Nat->Prop} {D U:Set0} {M St:Nat}
def WpQ (J:Vk) (w:World) (s:SuP) (o:Nat->Int) (S:Sh.Sf) (F:Nat->Prop) (D U:Set0) (M st a b:Nat) (x:Sh.Bs) (y:Int) (w':World):Prop :=
 ∃e D' U',WpR s M (2+2*J.L+st) st a b x D U S o y e D' U'/\RGoes J w w' s e.o e.S F D' U'
set_option maxRecDepth 20000 in
set_option maxHeartbeats 4000000 in
theorem writeParity_any (h:Vr J w s o S F D U) (hf:Fits J.n J.L s M St S) (hT:Tabs J.W) (hTB:max 0 1+1<=J.B) (st a pl b:Nat) (hst:st<St) (hb:b<M)
  {A:Option Addr} {c mm:Nat} {x:Sh.Bs} (hx:Sh.Sec x) (hA:Sh.Beside w (AllV J F) A x) (hL:∀x∈S.disks,x.waits.length<=mm) (hD:Maps.size D<=mm) (hmm:mm<=600000000) :
  Calls Tryz.prog 147 #[.pointer (some ⟨J.v,0,none⟩),spotV st a pl,.int .i64 b,.slice A 128 c] w fun e w'=>∃y:Int,e=.returned (.int .i64 y)/\WpQ J w s o S F D U M st a b x y w':=by
 have hb0:Below w.heap.size w (w.alloc (.cells #[.int .i64 st,.int .i64 a,.int .i64 pl] 193)):=(Below.refl _ _).alloc (Nat.le_refl _) _
 have q0:=heap_alloc_new w (.cells #[.int .i64 st,.int .i64 a,.int .i64 pl] 193)
 have V0:=h.grown hb0
 have HP:=hid (otherData_any V0 hf hT hTB st a pl b hst)
 have hsec:Sh.Sec (tog s M (2+2*J.L+st) st (tkNeither a b) S M).2.1:=tog_sec hf (h.secs hf (show 2+2*J.L+st<2+2*J.L+St by omega)) (Nat.le_refl _)
 have hsame:Same S (tog s M (2+2*J.L+st) st (tkNeither a b) S M).1:=tog_same M
 generalize hpr:tog s M (2+2*J.L+st) st (tkNeither a b) S M=pr at *
 obtain ⟨S1,x1,y1⟩:=pr
 simp only at HP hsec hsame
 have HPE:=hid hpr
 have HH:=hid (And.intro h (And.intro hf (And.intro hA (And.intro hL hD))))
 have HQ:=hid (And.intro q0 (And.intro hb0 (fun e=>Nat.lt_irrefl _ (h.lt w.heap.size e))))
 have HF1:=hid (hf.same hsame.len hsame.sectors)
 have HL1:Hid (∀x∈S1.disks,x.waits.length<=mm):=hid (by rw [hsame.disks];exact hL)
 obtain ⟨r0,r1,r2,_⟩:=cells3_of q0
 unfold spotV at *
 clear h hf hA hL hD hb0 q0 V0 hsame hpr
 go_enter Tryz.func147,Tryz.ntmps147
 go_wp2_with fail
 generalize w.alloc (.cells #[.int .i64 st,.int .i64 a,.int .i64 pl] 193)=w0 at *
 refine HP.out.mono ?_
 rintro e w3 ⟨⟨B1,n1,c1,rfl,hX⟩,hS1⟩
 clear r0 r1 r2 HP
 by_cases h1:y1=0
 ·subst h1
  obtain ⟨hn1,hBy⟩:n1=128/\Sh.Bytes w0 w3 B1 x1:=by
   rcases hX with ⟨_,h1,h2⟩ | ⟨h1,_⟩
   ·exact ⟨h1,h2⟩
   ·exact absurd rfl h1
  subst hn1
  obtain ⟨h,hf,hA,hL,hD⟩:=HH.out
  obtain ⟨q0,hb0,hn0⟩:=HQ.out
  have hm01:Sh.Moves (AllV J F) w0 (AllV J F) w3:=⟨hS1.2,fun _ e=>.inl e⟩
  have hm1:Sh.Moves (AllV J F) w (AllV J F) w3:=(moves_grown hb0).trans hm01
  obtain ⟨hq3,hn3⟩:=beside_goes q0 hn0 hm01
  have hd3:=drew_below w3
  have V3d:=hS1.1.grown hd3
  have hm3:=hm1.trans (moves_grown (G:=AllV J F) hd3)
  have hbe3:=((h.grown hb0).beside_new hBy).moves (moves_grown (G:=AllV J F) hd3)
  have hA3:=(hA.moves hm1).moves (moves_grown (G:=AllV J F) hd3)
  have HXO:=hid (rxor_ok B1 A c1 c x1 x w3.drew hsec.2 hx.2 hbe3.1 hA3.1)
  have HQ4:=hid (And.intro (show w.heap.size<w3.drew.heap.size from lt_of_block hq3) hn3)
  have HC2:Hid (∀(w4:World) (E:Option Addr) (f:Nat),w4.ownsRow w3.drew.heap.size 5 1 (.slice E 128 f) 128 (bts (xorL x1 x))->Below w3.drew.heap.size w3.drew w4->Calls Tryz.prog 146 #[.pointer (some ⟨J.v,0,none⟩),.int .i64 st,.int .i64 b,.slice E 128 f] w4 fun e w'=>∃y:Int,e=.returned (.int .i64 y)/\∃x4 S4,DW S1 (numOf s M st b) (o (numOf s M st b)) (2+2*J.L+st) (xorL x1 x) y x4 S4/\RGoes J w w' s (put1 o (numOf s M st b) x4) S4 F (D.put (.int .i64 st) one0) U/\w'.cell? ⟨w.heap.size,0,none⟩=some (.int .i64 st)):=hid fun w4 E f hown hb4=>by
   have V4:=V3d.grown hb4
   have hby:Sh.Bytes w3.drew w4 E (xorL x1 x):=bytes_own hown (Nat.le_refl _)
   refine (change_any V4 HF1.out hT hTB st b hst hb (c:=f) (xorL_sec hsec hx) (V3d.beside_new hby) HL1.out hD (by omega)).mono ?_
   rintro e w5 ⟨y4,rfl,x4,S4,hD4,hG4⟩
   obtain ⟨F4,V4b,m4⟩:=hG4
   have hc0:=(m4.1.cell (p:=⟨w.heap.size,0,none⟩) (Nat.lt_of_lt_of_le (lt_of_block hq3) hb4.size) hn3).trans ((hb4.cell (p:=⟨w.heap.size,0,none⟩) (lt_of_block hq3)).trans (cells3_of hq3).1)
   exact ⟨y4,rfl,x4,S4,hD4,RGoes.trans (hm3.trans (moves_grown hb4)) ⟨F4,V4b,m4⟩,hc0⟩
  have k0:w3.drew.cell? ⟨w.heap.size,0,none⟩=some (.int .i64 st):=(cells3_of hq3).1
  clear h hf hA hL hD q0 hb0 hn0 hm01 hm1 hq3 hn3 hd3 V3d hm3 hbe3 hA3 hX hS1 hBy
  go_wp2_with fail
  refine wp_region_held_drew (S:=fun W'=>W'.cell? ⟨w.heap.size,0,none⟩=some (.int .i64 st)) (by kernel_rfl) k0 (fun hHeld=>?_)
  refine tk 0 21 ?_
  refine tk 1 22 ?_
  refine tk 2 23 ?_
  refine tk 3 24 ?_
  refine tk 4 25 ?_
  refine tk 5 26 ?_
  refine r1 6 (some 27) fun K hK=>?_
  go_simp
  refine (HXO.out).mono ?_
  rintro e w4 ⟨E,f,rfl,hown,hb4⟩
  refine hK.out _ _ ((hb4.cell (p:=⟨w.heap.size,0,none⟩) HQ4.out.1).trans hHeld) (fun hHeld=>?_)
  clear hK K
  try simp only [Act.put,List.setIfInBounds_toArray,List.set_cons_zero,List.set_cons_succ]
  have HCH2:=hid (HC2.out w4 E f hown hb4)
  refine r1 7 (some 28) fun K hK=>?_
  go_simp
  refine (HCH2.out).mono ?_
  rintro e w5 ⟨y4,rfl,x4,S4,hD4,hG4,hc9⟩
  refine hK.out _ _ (hc9) (fun hHeld=>?_)
  clear hK K
  try simp only [Act.put,List.setIfInBounds_toArray,List.set_cons_zero,List.set_cons_succ]
  refine tk 8 8 ?_
  refine wpAnyH_done (by kernel_rfl) ?_ _
  have HGG:=hid hG4
  have HR:=hid (WpR.done (s:=s) (M:=M) (k:=2+2*J.L+st) (st:=st) (a:=a) (b:=b) (x:=x) (D:=D) (U:=U) (S:=S) (o:=o) y4 x4 S4 (by rw [HPE.out]) (by rw [HPE.out];exact hD4))
  clear hD4 hG4 hc9 hHeld hown hb4 HCH2
  go_wp2
  go_ret
  exact ⟨y4,rfl,_,_,_,HR.out,HGG.out⟩
 ·have hq:(y1 != 0)=true:=by simpa using h1
  have hq2:(y1 == 0)=false:=by simpa using h1
  have HG:=hid (RGoes.trans (moves_grown HQ.out.2.1) hS1.goes)
  have H1:=hid h1
  clear hX hS1 h1
  go_wp2
  go_ret
  exact ⟨y1,rfl,⟨S1,o⟩,D,U,by have:=WpR.lack (s:=s) (M:=M) (k:=2+2*J.L+st) (st:=st) (a:=a) (b:=b) (x:=x) (D:=D) (U:=U) (S:=S) (o:=o) (by rw [HPE.out];exact H1.out);rw [HPE.out] at this;exact this,HG.out⟩
end
def stOf (M n:Nat):Nat:=n / (M-1)
def plOf (M n:Nat):Nat:=n%(M-1)
def paOf (M n:Nat):Nat:=L.par M (stOf M n)
def meOf (M n:Nat):Nat:=L.memAt M (paOf M n) (plOf M n)
theorem spot_is (M n:Nat):L.spot M n=spotV (stOf M n) (meOf M n) (plOf M n):=rfl
inductive WrT (nn LL:Nat) (s:SuP) (M k st a pl b:Nat) (x:Sh.Bs) (D U:Set0) (t:Stt):Int->Stt->Set0->Set0->Prop
 | io:(dk t.S (numOf s M st a)).dead=true->(dk t.S (numOf s M st b)).dead=true->WrT nn LL s M k st a pl b x D U t 10 t D U
 | data (y z:Int) (S2:Sh.Sf):(dk t.S (numOf s M st a)).dead=false->(dk t.S (numOf s M st b)).dead=true->DW t.S (numOf s M st a) (t.o (numOf s M st a)) k x y z S2->WrT nn LL s M k st a pl b x D U t y ⟨S2,put1 t.o (numOf s M st a) z⟩ (D.put (.int .i64 st) one0) U
 | par (y:Int) (e:Stt) (D' U':Set0):(dk t.S (numOf s M st a)).dead=true->(dk t.S (numOf s M st b)).dead=false->WpR s M k st a b x D U t.S t.o y e D' U'->WrT nn LL s M k st a pl b x D U t y e D' U'
 | both (y:Int) (e:Stt) (D' U':Set0):(dk t.S (numOf s M st a)).dead=false->(dk t.S (numOf s M st b)).dead=false->WbR nn LL s M k st a pl b x D U t.S t.o y e D' U'->WrT nn LL s M k st a pl b x D U t y e D' U'
inductive WrR (nn LL:Nat) (s:SuP) (M St:Nat) (n:Int) (x:Sh.Bs) (D U:Set0) (S:Sh.Sf) (o:Nat->Int):Int->Stt->Set0->Set0->Prop
 | refused:refY S (hasB M St n)≠0->WrR nn LL s M St n x D U S o (refY S (hasB M St n)) ⟨S,o⟩ D U
 | flush (m:Nat) (y:Int) (t:Stt) (D1 U1:Set0):n=(m:Int)->m<St*(M-1)->S.off=false->Maps.has D (.int .i64 (stOf M m))=true->FlR nn LL D U S y t D1 U1->y≠0->WrR nn LL s M St n x D U S o y t D1 U1
 | after (m:Nat) (t:Stt) (D1 U1:Set0) (y:Int) (e:Stt) (D' U':Set0):n=(m:Int)->m<St*(M-1)->S.off=false->Maps.has D (.int .i64 (stOf M m))=true->FlR nn LL D U S 0 t D1 U1->WrT nn LL s M (2+2*LL+stOf M m) (stOf M m) (meOf M m) (plOf M m) (paOf M m) x D1 U1 t y e D' U'->WrR nn LL s M St n x D U S o y e D' U'
 | first (m:Nat) (y:Int) (e:Stt) (D' U':Set0):n=(m:Int)->m<St*(M-1)->S.off=false->Maps.has D (.int .i64 (stOf M m))=false->WrT nn LL s M (2+2*LL+stOf M m) (stOf M m) (meOf M m) (plOf M m) (paOf M m) x D U ⟨S,o⟩ y e D' U'->WrR nn LL s M St n x D U S o y e D' U'
section
variable {J:Vk} {w w':World} {s:SuP} {o:Nat->Int} {S:Sh.Sf} {F:Nat->Prop} {D U:Set0} {M St:Nat}
def WrQ (J:Vk) (w:World) (s:SuP) (o:Nat->Int) (S:Sh.Sf) (F:Nat->Prop) (D U:Set0) (M St:Nat) (n:Int) (x:Sh.Bs) (y:Int) (w':World):Prop :=
 ∃e D' U',WrR J.n J.L s M St n x D U S o y e D' U'/\RGoes J w w' s e.o e.S F D' U'
def S10 (J:Vk) (q st:Nat) (D:Set0) (W':World):Prop:=W'.cell? ⟨J.v,11,none⟩=some (.map (some J.mo))/\W'.cell? ⟨q,0,none⟩=some (.int .i64 st)/\SetIs W' 3 J.mo D
theorem s10_alloc {J:Vk} {q st:Nat} {D:Set0} {w:World} {o:Obj} (h:S10 J q st D w):S10 J q st D (w.alloc o):=by
 obtain ⟨h1,h2,h3⟩:=h
 have hb:Below w.heap.size w (w.alloc o):=(Below.refl _ _).alloc (Nat.le_refl _) _
 have hlt:∀{p:Addr} {v:Value},w.cell? p=some v->p.block<w.heap.size:=fun {p v} e=>by
  false_or_by_contra
  rename_i hn
  unfold World.cell? at e
  rw [Array.getElem?_eq_none (Nat.le_of_not_lt hn)] at e
  simp at e
 exact ⟨(hb.cell (hlt h1)).trans h1,(hb.cell (hlt h2)).trans h2,h3.alloc o⟩
theorem look_set {w:World} {b:Nat} {D:Set0} (h:SetIs w 3 b D) {key:Value} {kl:Lit} (hkey:keyOf Tryz.prog 3 key=some kl):(Instr.lookup 131 (.map (some b)) key true).run Tryz.prog w=.ok (.tuple #[.agg #[],.bool (Maps.has D kl)]) w:=by
 obtain ⟨v,ps,hrun,hv⟩:=h.look_ok lawInt2 Tryz.underlying131 (unit_zero w) unitElem_mk hkey
 obtain ⟨rfl,_⟩:=unitElem_inv hv
 exact hrun
theorem int_key (st:Nat) (h:st<1024):keyOf Tryz.prog 3 (.int .i64 st)=some (.int .i64 st):=key_int st (by omega)
set_option maxRecDepth 20000 in
set_option maxHeartbeats 8000000 in
theorem vWrite_any (h:Vr J w s o S F D U) (hf:Fits J.n J.L s M St S) (hT:Tabs J.W) (hTB:max 0 1+1<=J.B) (hFl:Flds J.W) (hFB:4+1<=J.B) (n:Int)
  {A:Option Addr} {c mm:Nat} {x:Sh.Bs} (hx:Sh.Sec x) (hA:Sh.Beside w (AllV J F) A x) (hL:∀x∈S.disks,x.waits.length<=mm) (hD:Maps.size D<=mm) (hU:Maps.size U<=mm) (hmm:mm<=500000000) :
  Calls Tryz.prog 80 #[.pointer (some ⟨J.v,0,none⟩),.int .i64 n,.slice A 128 c] w fun e w'=>∃y:Int,e=.returned (.int .i64 y)/\WrQ J w s o S F D U M St n x y w':=by
 have HHB:=hid (vhas h hf n)
 have h17:J.n<=17:=by
  obtain ⟨D0,gs,q⟩:=h.vo.ds.on.shelf
  have:=q.most
  have:=hf.len
  omega
 have hL8:=hf.l2
 have HH:=hid (And.intro h (And.intro hf (And.intro hA (And.intro hL (And.intro hD hU)))))
 have HRF:=hid (fun (w1:World) (b:Below w.heap.size w w1)=>vrefusal (h.grown b) (hasB M St n))
 have HYY:Hid (∀y,y=refY S (hasB M St n)->refY S (hasB M St n)=y):=hid fun _ h=>h.symm
 generalize hry:refY S (hasB M St n)=ry at *
 have HRY:=hid hry
 have hbn:Hid (ry=0->∃m:Nat,n=(m:Int)/\m<St*(M-1)/\S.off=false):=hid (by
  intro e
  rw [e] at hry
  unfold refY hasB at hry
  by_cases hb:0<=n/\n<((St*(M-1):Nat):Int)
  ·rw [decide_eq_true hb,if_pos rfl] at hry
   refine ⟨n.toNat,by omega,by omega,?_⟩
   cases ho:S.off
   ·rfl
   ·rw [ho] at hry;cases hry
  ·rw [decide_eq_false hb,if_neg (by decide)] at hry
   cases hry)
 clear h hf hA hL hD hU hry HYY
 go_enter Tryz.func80,Tryz.ntmps80
 generalize hhb:hasB M St n=bb at *
 go_wp2_with fail
 refine HHB.out.mono ?_
 rintro e w1 ⟨rfl,hb1⟩
 have HB1:=hid hb1
 have HR1:=hid (HRF.out w1 hb1)
 clear HHB hb1 HRF
 have HBB:=hid hhb
 clear hhb
 have hno:Hid (ry≠0->∀w2,RGoes J w w2 s o S F D U->WrQ J w s o S F D U M St n x ry w2):=hid fun h w2 hG=>by
  have e:refY S (hasB M St n)=ry:=by rw [HBB.out];exact HRY.out
  refine ⟨⟨S,o⟩,D,U,?_,hG⟩
  have:=WrR.refused (nn:=J.n) (LL:=J.L) (s:=s) (M:=M) (St:=St) (n:=n) (x:=x) (D:=D) (U:=U) (S:=S) (o:=o) (by rw [e];exact h)
  rw [e] at this
  exact this
 have hG0:=hid (RGoes.here HH.out.1 HB1.out)
 cases bb
 ·obtain rfl:ry=1:=HRY.out.symm
  go_wp2_with fail
  refine HR1.out.mono ?_
  rintro e w' ⟨rfl,rfl⟩
  clear HR1
  go_wp2
  go_ret
  exact ⟨1,rfl,hno.out (by decide) _ hG0.out⟩
 ·go_wp2_with fail
  refine HR1.out.mono ?_
  rintro e w' ⟨rfl,rfl⟩
  clear HR1
  by_cases h0:ry=0
  ·subst h0
   obtain ⟨m,rfl,hm,hoff⟩:=hbn.out rfl
   obtain ⟨h,hf,hA,hL,hD,hU⟩:=HH.out
   have V1:=h.grown HB1.out
   have c2:=cell_of_row _ _ 2 _ _ _ V1.vo.vol.root
   simp only [List.getElem?_toArray,List.getElem?_cons_zero,List.getElem?_cons_succ,hf.mem] at c2
   have hM15:St*(M-1)<=1024*15:=Nat.mul_le_mul hf.s2 (by have:=hf.m16;omega)
   have hM3:=hf.m3
   have hM16:=hf.m16
   have HMP:=hid (fun w=>L.map_ok M m w hM3 hM16 (by omega))
   rw [spot_is] at HMP
   have hstM:stOf M m<St:=by unfold stOf;exact (Nat.div_lt_iff_lt_mul (by omega)).2 hm
   have hst2:stOf M m<1024:=by have:=hf.s2;omega
   have HPA:=hid (fun w=>L.parity_ok M (stOf M m) w hM3 hM16 (by omega))
   have hpl:plOf M m<15:=by unfold plOf;have:=Nat.mod_lt m (show 0<M-1 by omega);omega
   have hpaM:paOf M m<M:=L.par_lt M _ (by omega)
   have hmeM:meOf M m<M:=L.memAt_lt M _ _ (by omega)
   have HPE:Hid (L.par M (stOf M m)=paOf M m):=hid rfl
   rw [HPE.out] at HPA
   have HMM:=hid hm
   have HOF:=hid hoff
   generalize hst:stOf M m=st at *
   generalize hplE:plOf M m=pl at *
   generalize hpaE:paOf M m=pa at *
   generalize hmeE:meOf M m=me at *
   have HEQ:=hid (And.intro hst (And.intro hplE (And.intro hpaE hmeE)))
   unfold spotV at HMP
   clear h hf hA hL hD hU V1 hm hoff hst hplE hpaE hmeE hM15 HPE
   go_wp2_with fail
   refine (HMP.out _).mono ?_
   rintro e w2 ⟨rfl,hb2⟩
   have hbx:Below w.heap.size w w2:=HB1.out.trans (hb2.mono HB1.out.size)
   have hb3:Below w2.heap.size w2 (w2.alloc (.cells #[.int .i64 st,.int .i64 me,.int .i64 pl] 193)):=(Below.refl _ _).alloc (Nat.le_refl _) _
   have V3:=(HH.out.1.grown hbx).grown hb3
   have q3:=heap_alloc_new w2 (.cells #[.int .i64 st,.int .i64 me,.int .i64 pl] 193)
   have hn3:¬AllV J F w2.heap.size:=fun e=>Nat.lt_irrefl _ ((HH.out.1.grown hbx).lt _ e)
   have c2b:=cell_of_row _ _ 2 _ _ _ V3.vo.vol.root
   simp only [List.getElem?_toArray,List.getElem?_cons_zero,List.getElem?_cons_succ,HH.out.2.1.mem] at c2b
   have k0:=(cells3_of q3).1
   have HK3:=hid (And.intro V3 (And.intro q3 (And.intro hn3 (hbx.trans (hb3.mono hbx.size)))))
   clear hb2 hbx hb3 V3 q3 hn3 c2 HMP
   go_wp2_with fail
   generalize w2.alloc (.cells #[.int .i64 st,.int .i64 me,.int .i64 pl] 193)=w3 at *
   generalize w2.heap.size=qq at *
   go_quiet ((go_at_call 144;exact Calls.quiet_of_same ((HPA.out _).mono (fun _ _ h=>⟨h.1,h.2.symm⟩))))
   have hb3d:=drew_n w3 nq
   have V3d:=HK3.out.1.grown hb3d
   have q3d:=(hb3d.block _ (lt_of_block HK3.out.2.1)).trans HK3.out.2.1
   have HK4:=hid (And.intro V3d (And.intro q3d (HK3.out.2.2.2.trans (hb3d.mono HK3.out.2.2.2.size))))
   have hkey:=int_key st hst2
   have hS10:S10 J qq st D (w3.drewN nq).drew:=⟨cell_of_row _ _ 11 _ _ _ V3d.vo.vol.root,(cells3_of q3d).1,V3d.opens⟩
   have j11:=fun (W':World) (h:S10 J qq st D W')=>h.1
   have jq0:=fun (W':World) (h:S10 J qq st D W')=>h.2.1
   have jlk:=fun (W':World) (h:S10 J qq st D W')=>look_set h.2.2 hkey
   clear hb3d V3d q3d c2b k0
   go_wp2_with fail
   generalize w3.drewN nq=w4 at *
   refine wp_region_held_drew (S:=S10 J qq st D) (by kernel_rfl) hS10 (fun hHeld=>?_)
   refine tk 0 57 ?_
   refine tk 1 58 ?_
   refine tk 2 59 ?_
   refine tk 3 60 ?_
   refine tk 4 61 ?_
   refine tk 5 62 ?_
   refine tk 6 63 ?_
   refine tk 7 56 ?_
   refine tk 8 64 ?_
   refine tk 9 65 ?_
   refine r1 10 (some 11) fun K hK=>?_
   rw [if_pos (by rfl)]
   go_simp
   refine hK.out _ _ (s10_alloc hHeld) (fun hHeld=>?_)
   clear hK K
   try simp only [Act.put,List.setIfInBounds_toArray,List.set_cons_zero,List.set_cons_succ]
   refine r1 11 none fun K hK=>?_
   rw [if_pos (by rfl)]
   go_simp
   refine hK.out _ _ (hHeld) (fun hHeld=>?_)
   clear hK K
   try simp only [Act.put,List.setIfInBounds_toArray,List.set_cons_zero,List.set_cons_succ]
   refine tk 12 12 ?_
   refine wpAnyH_done (by kernel_rfl) ?_ _
   clear j11 jq0 jlk
   have HK5:Hid (Vr J (w4.alloc (.cells #[] 196)).drew s o S F D U/\(w4.alloc (.cells #[] 196)).drew.heap[qq]?=some (.cells #[.int .i64 st,.int .i64 me,.int .i64 pl] 193 (0,0))/\Below w.heap.size w (w4.alloc (.cells #[] 196)).drew):=hid (by
    obtain ⟨V4,q4,hb4⟩:=HK4.out
    have hb5:Below w4.heap.size w4 (w4.alloc (.cells #[] 196)).drew:=((Below.refl _ w4).alloc (Nat.le_refl _) _).trans ((drew_below _).mono (by simp))
    exact ⟨V4.grown hb5,(hb5.block _ (lt_of_block q4)).trans q4,hb4.trans (hb5.mono hb4.size)⟩)
   have HN5:=hid HK3.out.2.2.1
   clear HK3 HK4 hHeld hS10
   cases hh:Maps.has D (.int .i64 (st:Int))
   ·have HFIN:Hid (∀y e D' U',WrT J.n J.L s M (2+2*J.L+st) st me pl pa x D U ⟨S,o⟩ y e D' U'->WrR J.n J.L s M St (m:Int) x D U S o y e D' U'):=hid fun y e D' U' ht=>by
     obtain ⟨e1,e2,e3,e4⟩:=HEQ.out
     exact .first m y e D' U' rfl HMM.out HOF.out (by rw [e1];exact hh) (by rw [e1,e2,e3,e4];exact ht)
    have HV6:=hid (And.intro HK5.out.1 (And.intro (moves_grown (G:=AllV J F) HK5.out.2.2) (And.intro HK5.out.2.1 (And.intro HN5.out (And.intro HH.out.2.1 (And.intro (show ∀x∈S.disks,x.waits.length<=mm+408 from fun x hx=>Nat.le_trans (HH.out.2.2.2.1 x hx) (Nat.le_add_right _ _)) (And.intro HH.out.2.2.2.2.1 HH.out.2.2.2.2.2)))))))
    have HTO:=hid (show (Stt.mk S o).S=S/\(Stt.mk S o).o=o from ⟨rfl,rfl⟩)
    clear HK5 HN5
    go_wp2_with fail
    generalize (w4.alloc (.cells #[] 196)).drew=w6 at *
    have HDA:=hid (HV6.out.2.2.2.2.1.num_lt st hmeM)
    have HDP:=hid (HV6.out.2.2.2.2.1.num_lt st hpaM)
    have HLD:=hid HV6.out.2.2.2.2.1.len
    have HD1:=hid (fun (W':World) (hb:Below w6.heap.size w6 W')=>diskOf_ok (HV6.out.1.grown hb).vo.vol HV6.out.2.2.2.2.1.mem st me HDA.out)
    have HD2:=hid (fun (W':World) (hb:Below w6.heap.size w6 W')=>diskOf_ok (HV6.out.1.grown hb).vo.vol HV6.out.2.2.2.2.1.mem st pa HDP.out)
    have HE1:=hid (fun (W':World) (hb:Below w6.heap.size w6 W')=>dead_dev ((HV6.out.1.grown hb).dv HDA.out) (by rw [HLD.out];exact HDA.out))
    have HE2:=hid (fun (W':World) (hb:Below w6.heap.size w6 W')=>dead_dev ((HV6.out.1.grown hb).dv HDP.out) (by rw [HLD.out];exact HDP.out))
    have j0:=fun (W':World) (hb:Below w6.heap.size w6 W')=>(hb.cell (p:=⟨qq,0,none⟩) (lt_of_block HV6.out.2.2.1)).trans (cells3_of HV6.out.2.2.1).1
    have j1:=fun (W':World) (hb:Below w6.heap.size w6 W')=>(hb.cell (p:=⟨qq,1,none⟩) (lt_of_block HV6.out.2.2.1)).trans (cells3_of HV6.out.2.2.1).2.1
    have hfd:=field_disk
    refine wp_region_held_drew (S:=fun W'=>Below w6.heap.size w6 W') (by kernel_rfl) (drew_below w6) (fun hHeld=>?_)
    refine tk 0 72 ?_
    refine tk 1 73 ?_
    refine tk 2 74 ?_
    refine tk 3 75 ?_
    refine tk 4 76 ?_
    refine tk 8 80 ?_
    refine tk 9 81 ?_
    refine tk 10 82 ?_
    refine tk 11 83 ?_
    refine r1 5 (some 77) fun K hK=>?_
    go_simp
    refine (HD1.out _ hHeld).mono ?_
    rintro e w7 ⟨rfl,hb7⟩
    refine hK.out _ _ (hHeld.trans (hb7.mono hHeld.size)) (fun hHeld=>?_)
    clear hK K
    try simp only [Act.put,List.setIfInBounds_toArray,List.set_cons_zero,List.set_cons_succ]
    refine tk 6 78 ?_
    refine r1 7 (some 79) fun K hK=>?_
    go_simp
    refine (HE1.out _ hHeld).mono ?_
    rintro e w8 ⟨rfl,hb8⟩
    refine hK.out _ _ (hHeld.trans (hb8.mono hHeld.size)) (fun hHeld=>?_)
    clear hK K
    try simp only [Act.put,List.setIfInBounds_toArray,List.set_cons_zero,List.set_cons_succ]
    refine r1 12 (some 84) fun K hK=>?_
    go_simp
    refine (HD2.out _ hHeld).mono ?_
    rintro e w9 ⟨rfl,hb9⟩
    refine hK.out _ _ (hHeld.trans (hb9.mono hHeld.size)) (fun hHeld=>?_)
    clear hK K
    try simp only [Act.put,List.setIfInBounds_toArray,List.set_cons_zero,List.set_cons_succ]
    refine tk 13 85 ?_
    refine r1 14 (some 86) fun K hK=>?_
    go_simp
    refine (HE2.out _ hHeld).mono ?_
    rintro e w10 ⟨rfl,hb10⟩
    refine hK.out _ _ (hHeld.trans (hb10.mono hHeld.size)) (fun hHeld=>?_)
    clear hK K
    try simp only [Act.put,List.setIfInBounds_toArray,List.set_cons_zero,List.set_cons_succ]
    refine tk 15 14 ?_
    refine tk 16 15 ?_
    refine wpAnyH_done (by kernel_rfl) ?_ _
    have HV7:Hid (Vr J w10 s (Stt.mk S o).o (Stt.mk S o).S F D U/\Sh.Moves (AllV J F) w (AllV J F) w10/\w10.heap[qq]?=some (.cells #[.int .i64 st,.int .i64 me,.int .i64 pl] 193 (0,0))):=hid ⟨HV6.out.1.grown hHeld,HV6.out.2.1.trans (moves_grown hHeld),(hHeld.block _ (lt_of_block HV6.out.2.2.1)).trans HV6.out.2.2.1⟩
    have HA7:=hid (HH.out.2.2.1.moves HV7.out.2.1)
    clear HD1 HD2 HE1 HE2 j0 j1 hfd hHeld
    obtain ⟨k0,k1,k2,_⟩:=cells3_of HV7.out.2.2
    cases hda:(dk (Stt.mk S o).S (numOf s M st me)).dead
    ·cases hdp:(dk (Stt.mk S o).S (numOf s M st pa)).dead
     ·have HC:=hid (writeBoth_any HV7.out.1 HV6.out.2.2.2.2.1 hT hTB hFl hFB st me pl pa hstM hmeM hpl hpaM (c:=c) hx HA7.out HV6.out.2.2.2.2.2.1 (Nat.le_trans HV6.out.2.2.2.2.2.2.1 (Nat.le_add_right _ 408)) (Nat.le_trans HV6.out.2.2.2.2.2.2.2 (Nat.le_add_right _ 408)) (by omega))
      unfold spotV at HC
      have HX:=hid (And.intro hda hdp)
      clear hda hdp
      go_wp2_with fail
      refine HC.out.mono ?_
      rintro e w11 ⟨y2,rfl,e2,D2,U2,hW,hG⟩
      have HR:=hid (HFIN.out y2 e2 D2 U2 (.both y2 e2 D2 U2 HX.out.1 HX.out.2 hW))
      have HG:=hid (RGoes.trans HV7.out.2.1 hG)
      clear hW hG k0 k1 k2 HC
      go_wp2
      go_ret
      exact ⟨y2,rfl,e2,D2,U2,HR.out,HG.out⟩
     ·have HC:=hid (change_any HV7.out.1 HV6.out.2.2.2.2.1 hT hTB st me hstM hmeM (c:=c) hx HA7.out HV6.out.2.2.2.2.2.1 (Nat.le_trans HV6.out.2.2.2.2.2.2.1 (Nat.le_add_right _ 408)) (by omega))
      have HX:=hid (And.intro hda hdp)
      clear hda hdp
      go_wp2_with fail
      refine HC.out.mono ?_
      rintro e w11 ⟨y2,rfl,x2,S2,hW,hG⟩
      have HR:=hid (HFIN.out y2 _ _ _ (.data y2 x2 S2 HX.out.1 HX.out.2 hW))
      have HG:=hid (RGoes.trans HV7.out.2.1 hG)
      clear hW hG k0 k1 k2 HC
      go_wp2
      go_ret
      exact ⟨y2,rfl,_,_,_,HR.out,HG.out⟩
    ·cases hdp:(dk (Stt.mk S o).S (numOf s M st pa)).dead
     ·have HC:=hid (writeParity_any HV7.out.1 HV6.out.2.2.2.2.1 hT hTB st me pl pa hstM hpaM (c:=c) hx HA7.out HV6.out.2.2.2.2.2.1 (Nat.le_trans HV6.out.2.2.2.2.2.2.1 (Nat.le_add_right _ 408)) (by omega))
      unfold spotV at HC
      have HX:=hid (And.intro hda hdp)
      clear hda hdp
      go_wp2_with fail
      refine HC.out.mono ?_
      rintro e w11 ⟨y2,rfl,e2,D2,U2,hW,hG⟩
      have HR:=hid (HFIN.out y2 e2 D2 U2 (.par y2 e2 D2 U2 HX.out.1 HX.out.2 hW))
      have HG:=hid (RGoes.trans HV7.out.2.1 hG)
      clear hW hG k0 k1 k2 HC
      go_wp2
      go_ret
      exact ⟨y2,rfl,e2,D2,U2,HR.out,HG.out⟩
     ·have HR:=hid (HFIN.out 10 ⟨S,o⟩ D U (.io hda hdp))
      have HG:=hid (RGoes.trans HV7.out.2.1 (RGoes.here HV7.out.1 (Below.refl _ _)))
      clear hda hdp
      go_wp2
      go_ret
      exact ⟨10,rfl,⟨S,o⟩,D,U,HR.out,HG.out⟩
   ·obtain ⟨V5,q5,hb5⟩:=HK5.out
    have HFL:=hid (vFlush_any V5 HH.out.2.1 hT hTB HH.out.2.2.2.1 HH.out.2.2.2.2.2 (by omega))
    have HH2:=hid hh
    clear V5 q5 hb5
    go_wp2_with fail
    generalize (w4.alloc (.cells #[] 196)).drew=w5 at *
    refine HFL.out.mono ?_
    rintro e w6 ⟨y1,rfl,t,D6,U6,hFR,F6,V6,m6⟩
    clear HFL hh
    by_cases h1:y1=0
    ·subst h1
     have HFIN:Hid (∀y e D' U',WrT J.n J.L s M (2+2*J.L+st) st me pl pa x D6 U6 t y e D' U'->WrR J.n J.L s M St (m:Int) x D U S o y e D' U'):=hid fun y e D' U' ht=>by
      obtain ⟨e1,e2,e3,e4⟩:=HEQ.out
      exact .after m t D6 U6 y e D' U' rfl HMM.out HOF.out (by rw [e1];exact HH2.out) hFR (by rw [e1,e2,e3,e4];exact ht)
     have hsz:=hFR.sets HH.out.2.2.2.2.1 HH.out.2.2.2.2.2
     have hq6:=beside_goes HK5.out.2.1 HN5.out m6
     have HV6:=hid (And.intro V6 (And.intro ((moves_grown (G:=AllV J F) HK5.out.2.2).trans m6) (And.intro hq6.1 (And.intro hq6.2 (And.intro (HH.out.2.1.same hFR.len.1 hFR.len.2) (And.intro (hFR.waits h17 hL8 HH.out.2.2.2.1) hsz))))))
     clear hFR V6 m6 hsz hq6 HK5 HN5
     go_wp2_with fail
     have HDA:=hid (HV6.out.2.2.2.2.1.num_lt st hmeM)
     have HDP:=hid (HV6.out.2.2.2.2.1.num_lt st hpaM)
     have HLD:=hid HV6.out.2.2.2.2.1.len
     have HD1:=hid (fun (W':World) (hb:Below w6.heap.size w6 W')=>diskOf_ok (HV6.out.1.grown hb).vo.vol HV6.out.2.2.2.2.1.mem st me HDA.out)
     have HD2:=hid (fun (W':World) (hb:Below w6.heap.size w6 W')=>diskOf_ok (HV6.out.1.grown hb).vo.vol HV6.out.2.2.2.2.1.mem st pa HDP.out)
     have HE1:=hid (fun (W':World) (hb:Below w6.heap.size w6 W')=>dead_dev ((HV6.out.1.grown hb).dv HDA.out) (by rw [HLD.out];exact HDA.out))
     have HE2:=hid (fun (W':World) (hb:Below w6.heap.size w6 W')=>dead_dev ((HV6.out.1.grown hb).dv HDP.out) (by rw [HLD.out];exact HDP.out))
     have j0:=fun (W':World) (hb:Below w6.heap.size w6 W')=>(hb.cell (p:=⟨qq,0,none⟩) (lt_of_block HV6.out.2.2.1)).trans (cells3_of HV6.out.2.2.1).1
     have j1:=fun (W':World) (hb:Below w6.heap.size w6 W')=>(hb.cell (p:=⟨qq,1,none⟩) (lt_of_block HV6.out.2.2.1)).trans (cells3_of HV6.out.2.2.1).2.1
     have hfd:=field_disk
     refine wp_region_held_drew (S:=fun W'=>Below w6.heap.size w6 W') (by kernel_rfl) (drew_below w6) (fun hHeld=>?_)
     refine tk 0 72 ?_
     refine tk 1 73 ?_
     refine tk 2 74 ?_
     refine tk 3 75 ?_
     refine tk 4 76 ?_
     refine tk 8 80 ?_
     refine tk 9 81 ?_
     refine tk 10 82 ?_
     refine tk 11 83 ?_
     refine r1 5 (some 77) fun K hK=>?_
     go_simp
     refine (HD1.out _ hHeld).mono ?_
     rintro e w7 ⟨rfl,hb7⟩
     refine hK.out _ _ (hHeld.trans (hb7.mono hHeld.size)) (fun hHeld=>?_)
     clear hK K
     try simp only [Act.put,List.setIfInBounds_toArray,List.set_cons_zero,List.set_cons_succ]
     refine tk 6 78 ?_
     refine r1 7 (some 79) fun K hK=>?_
     go_simp
     refine (HE1.out _ hHeld).mono ?_
     rintro e w8 ⟨rfl,hb8⟩
     refine hK.out _ _ (hHeld.trans (hb8.mono hHeld.size)) (fun hHeld=>?_)
     clear hK K
     try simp only [Act.put,List.setIfInBounds_toArray,List.set_cons_zero,List.set_cons_succ]
     refine r1 12 (some 84) fun K hK=>?_
     go_simp
     refine (HD2.out _ hHeld).mono ?_
     rintro e w9 ⟨rfl,hb9⟩
     refine hK.out _ _ (hHeld.trans (hb9.mono hHeld.size)) (fun hHeld=>?_)
     clear hK K
     try simp only [Act.put,List.setIfInBounds_toArray,List.set_cons_zero,List.set_cons_succ]
     refine tk 13 85 ?_
     refine r1 14 (some 86) fun K hK=>?_
     go_simp
     refine (HE2.out _ hHeld).mono ?_
     rintro e w10 ⟨rfl,hb10⟩
     refine hK.out _ _ (hHeld.trans (hb10.mono hHeld.size)) (fun hHeld=>?_)
     clear hK K
     try simp only [Act.put,List.setIfInBounds_toArray,List.set_cons_zero,List.set_cons_succ]
     refine tk 15 14 ?_
     refine tk 16 15 ?_
     refine wpAnyH_done (by kernel_rfl) ?_ _
     have HV7:Hid (Vr J w10 s t.o t.S F6 D6 U6/\Sh.Moves (AllV J F) w (AllV J F6) w10/\w10.heap[qq]?=some (.cells #[.int .i64 st,.int .i64 me,.int .i64 pl] 193 (0,0))):=hid ⟨HV6.out.1.grown hHeld,HV6.out.2.1.trans (moves_grown hHeld),(hHeld.block _ (lt_of_block HV6.out.2.2.1)).trans HV6.out.2.2.1⟩
     have HA7:=hid (HH.out.2.2.1.moves HV7.out.2.1)
     clear HD1 HD2 HE1 HE2 j0 j1 hfd hHeld
     obtain ⟨k0,k1,k2,_⟩:=cells3_of HV7.out.2.2
     cases hda:(dk t.S (numOf s M st me)).dead
     ·cases hdp:(dk t.S (numOf s M st pa)).dead
      ·have HC:=hid (writeBoth_any HV7.out.1 HV6.out.2.2.2.2.1 hT hTB hFl hFB st me pl pa hstM hmeM hpl hpaM (c:=c) hx HA7.out HV6.out.2.2.2.2.2.1 (Nat.le_trans HV6.out.2.2.2.2.2.2.1 (Nat.le_add_right _ 408)) (Nat.le_trans HV6.out.2.2.2.2.2.2.2 (Nat.le_add_right _ 408)) (by omega))
       unfold spotV at HC
       have HX:=hid (And.intro hda hdp)
       clear hda hdp
       go_wp2_with fail
       refine HC.out.mono ?_
       rintro e w11 ⟨y2,rfl,e2,D2,U2,hW,hG⟩
       have HR:=hid (HFIN.out y2 e2 D2 U2 (.both y2 e2 D2 U2 HX.out.1 HX.out.2 hW))
       have HG:=hid (RGoes.trans HV7.out.2.1 hG)
       clear hW hG k0 k1 k2 HC
       go_wp2
       go_ret
       exact ⟨y2,rfl,e2,D2,U2,HR.out,HG.out⟩
      ·have HC:=hid (change_any HV7.out.1 HV6.out.2.2.2.2.1 hT hTB st me hstM hmeM (c:=c) hx HA7.out HV6.out.2.2.2.2.2.1 (Nat.le_trans HV6.out.2.2.2.2.2.2.1 (Nat.le_add_right _ 408)) (by omega))
       have HX:=hid (And.intro hda hdp)
       clear hda hdp
       go_wp2_with fail
       refine HC.out.mono ?_
       rintro e w11 ⟨y2,rfl,x2,S2,hW,hG⟩
       have HR:=hid (HFIN.out y2 _ _ _ (.data y2 x2 S2 HX.out.1 HX.out.2 hW))
       have HG:=hid (RGoes.trans HV7.out.2.1 hG)
       clear hW hG k0 k1 k2 HC
       go_wp2
       go_ret
       exact ⟨y2,rfl,_,_,_,HR.out,HG.out⟩
     ·cases hdp:(dk t.S (numOf s M st pa)).dead
      ·have HC:=hid (writeParity_any HV7.out.1 HV6.out.2.2.2.2.1 hT hTB st me pl pa hstM hpaM (c:=c) hx HA7.out HV6.out.2.2.2.2.2.1 (Nat.le_trans HV6.out.2.2.2.2.2.2.1 (Nat.le_add_right _ 408)) (by omega))
       unfold spotV at HC
       have HX:=hid (And.intro hda hdp)
       clear hda hdp
       go_wp2_with fail
       refine HC.out.mono ?_
       rintro e w11 ⟨y2,rfl,e2,D2,U2,hW,hG⟩
       have HR:=hid (HFIN.out y2 e2 D2 U2 (.par y2 e2 D2 U2 HX.out.1 HX.out.2 hW))
       have HG:=hid (RGoes.trans HV7.out.2.1 hG)
       clear hW hG k0 k1 k2 HC
       go_wp2
       go_ret
       exact ⟨y2,rfl,e2,D2,U2,HR.out,HG.out⟩
      ·have HR:=hid (HFIN.out 10 t D6 U6 (.io hda hdp))
       have HG:=hid (RGoes.trans HV7.out.2.1 (RGoes.here HV7.out.1 (Below.refl _ _)))
       clear hda hdp
       go_wp2
       go_ret
       exact ⟨10,rfl,t,D6,U6,HR.out,HG.out⟩
    ·have hq:(y1 != 0)=true:=by simpa using h1
     have hq2:(y1 == 0)=false:=by simpa using h1
     have HG:=hid (RGoes.trans (moves_grown (w:=w) HK5.out.2.2) ⟨F6,V6,m6⟩)
     have HR:Hid (WrR J.n J.L s M St (m:Int) x D U S o y1 t D6 U6):=hid (by
      obtain ⟨e1,_,_,_⟩:=HEQ.out
      exact .flush m y1 t D6 U6 rfl HMM.out HOF.out (by rw [e1];exact HH2.out) hFR h1)
     clear hFR V6 m6 h1
     go_wp2
     go_ret
     exact ⟨y1,rfl,t,D6,U6,HR.out,HG.out⟩
  ·have hq:(ry != 0)=true:=by simpa using h0
   have hq2:(ry == 0)=false:=by simpa using h0
   have H0:=hid h0
   clear h0
   go_wp2
   go_ret
   exact ⟨ry,rfl,hno.out H0.out _ hG0.out⟩
end
end Go.Proofs.YtcnjpmcelihknaaGreatDoor.U
