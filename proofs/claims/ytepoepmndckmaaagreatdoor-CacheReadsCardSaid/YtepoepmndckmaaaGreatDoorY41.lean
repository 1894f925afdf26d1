/-
  What the statement's proof rests on, part 41.
  Conditions: each theorem's own.
-/
import Derived.Test.YtepoepmndckmaaaGreatDoorY40
import Derived.Test.YtepoepmndckmaaaGreatDoorY37
open Go.Lib (hid)
open Go.Proofs.YtepoepmndckmaaaGreatDoor.S renaming Sup → SuP
namespace Go.Proofs.YtepoepmndckmaaaGreatDoor.U
open Go.RowKit Go.Maps
def alikeB (a b:SuP):Bool:=a.gen == b.gen && (a.mem == b.mem && (a.str == b.str && (a.logs == b.logs && (a.spare == b.spare && (a.mark == b.mark && a.cur == b.cur)))))
inductive AgStep (x:SuP) (k d:Nat) (a:Stt):Int->Stt->Prop
 | says (S1:Sh.Sf) (y:SuP):Same a.S S1->sayO a.S d k=some y->alikeB y x=true->AgStep x k d a 0 ⟨S1,a.o⟩
 | other (S1:Sh.Sf) (z o':Int) (S':Sh.Sf):Same a.S S1->(∀y,sayO a.S d k=some y->alikeB y x=false)->SuR S1 d (a.o d) k (Go.Proofs.YtepoepmndckmaaaGreatDoor.S.encL ({ x with disk:=(d:Int) }:SuP).nums) z o' S'->AgStep x k d a (bd z) ⟨S',put1 a.o d o'⟩
inductive AgSteps (x:SuP) (k:Nat):Nat->Stt->Stt->Prop
 | nil (a:Stt):AgSteps x k 0 a a
 | snoc {j:Nat} {a b c:Stt}:AgSteps x k j a b->AgStep x k j b 0 c->AgSteps x k (j+1) a c
def AgR (n:Nat) (x:SuP) (k:Nat) (a:Stt) (y:Int) (b:Stt):Prop :=
 (y=0/\AgSteps x k n a b)\/(y≠0/\∃j c,j<n/\AgSteps x k j a c/\AgStep x k j c y b)
structure AgKeep (S T:Sh.Sf) (j:Nat):Prop where
 dk:∀d,j<=d->U.dk T d=U.dk S d
 len:T.disks.length=S.disks.length
 sectors:T.sectors=S.sectors
 on:T.off=false->S.off=false
theorem why_on {S:Sh.Sf} {d:Nat} (h:Sh.why S d=0):S.off=false:=by
 unfold Sh.why at h
 by_cases e:S.off=true
 ·rw [if_pos e] at h;exact absurd h (by decide)
 ·simpa using e
theorem DW.on {S S':Sh.Sf} {d k:Nat} {o y o':Int} {b:Sh.Bs} (h:DW S d o k b y o' S') (e:S'.off=false):S.off=false:=by
 rcases h with ⟨_,_,_,rfl⟩ | ⟨hw,_⟩
 ·exact e
 ·exact why_on hw
theorem fl_on2 {S:Sh.Sf} {d:Nat} (e:(Fl S d).off=false):S.off=false:=by
 by_cases hw:Sh.why S d=0
 ·exact why_on hw
 ·rw [fl_why hw] at e;exact e
theorem SuR.on {S S':Sh.Sf} {d k:Nat} {o y o':Int} {b:Sh.Bs} (h:SuR S d o k b y o' S') (e:S'.off=false):S.off=false:=by
 obtain ⟨_,_,_,h1,⟨_,_,_,rfl⟩ | ⟨_,_,_,rfl⟩⟩:=h
 ·exact h1.on e
 ·exact h1.on (fl_on2 e)
theorem AgStep.keep {x:SuP} {k d:Nat} {a b:Stt} {y:Int} (h:AgStep x k d a y b):AgKeep a.S b.S (d+1):=by
 cases h with
 | says S1 y hs _ _=>exact ⟨fun e _=>by show U.dk S1 e=_;unfold U.dk;rw [hs.disks],hs.len,hs.sectors,fun e=>hs.off.symm.trans e⟩
 | other S1 z o' S' hs _ hu=>exact ⟨fun e he=>(hu.alike.2 e (by omega)).trans (by rw [hs.disks];rfl),hu.len.trans hs.len,hu.sectors.trans hs.sectors,fun e=>hs.off.symm.trans (hu.on e)⟩
theorem AgStep.waits {x:SuP} {k d m:Nat} {a b:Stt} {y:Int} (h:AgStep x k d a y b) (hL:∀x∈a.S.disks,x.waits.length<=m):∀x∈b.S.disks,x.waits.length<=m+3:=by
 cases h with
 | says S1 y hs _ _ =>
  intro x hx
  have hx:x∈S1.disks:=hx
  rw [hs.disks] at hx
  have:=hL x hx
  omega
 | other S1 z o' S' hs _ hu=>exact hu.waits (by rw [hs.disks];exact hL)
theorem AgSteps.keep {x:SuP} {k j:Nat} {a b:Stt} (h:AgSteps x k j a b):AgKeep a.S b.S j:=by
 induction h with
 | nil=>exact ⟨fun _ _=>rfl,rfl,rfl,id⟩
 | snoc _ h2 ih =>
  have k2:=h2.keep
  exact ⟨fun d hd=>(k2.dk d hd).trans (ih.dk d (by omega)),k2.len.trans ih.len,k2.sectors.trans ih.sectors,fun e=>ih.on (k2.on e)⟩
theorem AgSteps.waits {x:SuP} {k j m:Nat} {a b:Stt} (h:AgSteps x k j a b) (hL:∀x∈a.S.disks,x.waits.length<=m):∀x∈b.S.disks,x.waits.length<=m+3*j:=by
 induction h with
 | nil=>simpa using hL
 | snoc _ h2 ih =>
  intro x hx
  have:=h2.waits (ih hL) x hx
  omega
section
variable {B:Nat} {W w w':World} {v p t n mo mu:Nat} {s:SuP} {base:Int} {a:Nat->Nat} {o:Nat->Int} {g:Nat->Option Addr} {S S':Sh.Sf} {F:Nat->Prop}
def AgRel (B:Nat) (W w:World) (v p t n mo mu:Nat) (s:SuP) (base:Int) (a:Nat->Nat) (o:Nat->Int) (g:Nat->Option Addr) (S:Sh.Sf) (F:Nat->Prop) (x:SuP) (k j:Nat) (wr:World):Prop :=
 ∃(b:Stt) (F1:Nat->Prop),AgSteps x k j ⟨S,o⟩ b/\Vo B W wr v p t n mo mu s base a b.o g b.S F1/\Sh.Moves (AllB F a n) w (AllB F1 a n) wr/\wr.heap[w.heap.size]?=some (.cells x.cells 81 (0,0))/\¬AllB F1 a n w.heap.size
def AgQ (B:Nat) (W w:World) (v p t n mo mu:Nat) (s:SuP) (base:Int) (a:Nat->Nat) (o:Nat->Int) (g:Nat->Option Addr) (S:Sh.Sf) (F:Nat->Prop) (x:SuP) (k:Nat) (e:Ending) (w':World):Prop :=
 ∃(y:Int) (b:Stt) (F1:Nat->Prop),e=.returned (.int .i64 y)/\AgR n x k ⟨S,o⟩ y b/\Vo B W w' v p t n mo mu s base a b.o g b.S F1/\Sh.Moves (AllB F a n) w (AllB F1 a n) w'
theorem moves_up {G:Nat->Prop} (hb:Below w.heap.size w w'):Sh.Moves G w G w':=⟨⟨hb.os,hb.tape,hb.output,hb.size,fun k hk _=>hb.block k hk⟩,fun _ hb=>.inl hb⟩
set_option maxRecDepth 20000 in
set_option maxHeartbeats 4000000 in
theorem agree_any (h:Vo B W w v p t n mo mu s base a o g S F) (hT:Tabs W) (hTB:max 0 1+1<=B) (hWi:Go.Proofs.YtepoepmndckmaaaGreatDoor.S.Wid W) (hWB:2+1<=B)
  (hn:S.disks.length=n) (hbb:2<=blk S.sectors) (x:SuP) (k:Nat) (hk:x.gen%2=(k:Int)) (hg:1<=x.gen/\x.gen<=4611686018427387904) (hr:∀d,d<n->({ x with disk:=(d:Int) }:SuP).right=true)
  (hsay:∀d y,d<n->sayO S d k=some y->SayIs n (blk S.sectors) d k y) {m:Nat} (hL:∀k∈S.disks,k.waits.length<=m) (hm:m<=900000) :
  Calls Tryz.prog 59 #[.pointer (some ⟨v,0,none⟩),x.val] w (AgQ B W w v p t n mo mu s base a o g S F x k):=by
 have hb0:Below w.heap.size w (w.alloc (.cells x.cells 81)):=(Below.refl _ _).alloc (Nat.le_refl _) _
 have h0:=heap_alloc_new w (.cells x.cells 81)
 have V0:=h.grown hb0
 have c10:=V0.vol.c10
 have h17:n<=17:=by
  obtain ⟨D0,gs,q⟩:=h.ds.on.shelf
  have:=q.most
  omega
 have hk2:k<2:=by omega
 have HH:=hid (And.intro h (And.intro hn (And.intro hbb (And.intro hr (And.intro hsay hL)))))
 have hn0:¬AllB F a n w.heap.size:=fun e=>Nat.lt_irrefl _ (h.ds.lt _ e)
 have hrel0:Hid (AgRel B W w v p t n mo mu s base a o g S F x k 0 (w.alloc (.cells x.cells 81))):=hid ⟨⟨S,o⟩,F,.nil _,V0,moves_up hb0,h0,hn0⟩
 have HG:=hid (And.intro hk hg)
 clear h hn hbb hr hsay hL V0 h0 hb0 hn0 hk hg
 obtain ⟨x0,x1,x2,x3,x4,x5,x6,x7⟩:=x
 have hx0:=HG.out.2
 have hxk:=HG.out.1
 simp only at hx0 hxk
 have HSL:=hid (fun w=>Go.Proofs.YtepoepmndckmaaaGreatDoor.S.slot_any x0 w (by omega) (by omega))
 rw [hxk] at HSL
 clear hx0 hxk
 unfold Go.Proofs.YtepoepmndckmaaaGreatDoor.S.Sup.val
 simp only [Go.Proofs.YtepoepmndckmaaaGreatDoor.S.Sup.cells] at c10 hrel0 ⊢
 go_enter Tryz.func59,Tryz.ntmps59
 go_wp2
 clear c10
 go_loopw [14] (fun i wr=>∃j:Nat,j<=n/\i=.int .i64 j/\Hid (AgRel B W w v p t n mo mu s base a o g S F ⟨x0,x1,x2,x3,x4,x5,x6,x7⟩ k j wr)) (fun i _=>n-(intOf i).toNat)
 case atStart=>exact ⟨0,Nat.zero_le _,rfl,hrel0⟩
 case round =>
  obtain ⟨j,hj,rfl,hrel⟩:=hrel
  by_cases hlt:j<n
  ·obtain ⟨b,F1,hst,V1,M1,hq,hnq⟩:=hrel.out
   have hkp:=hst.keep
   obtain ⟨k0,k1,k2,k3,k4,k5,k6,k7,_⟩:=Go.Proofs.YtepoepmndckmaaaGreatDoor.S.cells8_of hq
   have HSY:=hid (saying_any V1 hT hTB hWi hWB (hkp.len.trans HH.out.2.1) j k hlt hk2 (by rw [hkp.sectors];exact HH.out.2.2.1) (fun y hy=>sayO_is (hkp.len.trans HH.out.2.1) hy))
   have HK:=hid (And.intro hst (And.intro V1 (And.intro M1 (And.intro hq hnq))))
   have HKP:=hid hkp
   have HLT:=hid (fun b (e:F1 b)=>V1.ds.lt b (.inl e))
   clear hst V1 M1 hq hnq hkp hrel hrel0
   generalize hso:sayO b.S j k=so at *
   have HSO:=hid hso
   clear hso
   go_wp2_with (go_at_call 90;refine (HSL.out _).mono ?_;rintro e w' ⟨rfl,rfl⟩)
   refine HSY.out.mono ?_
   rintro e w2 ⟨z,b2,rfl,hb1,hbn,S2,s2,V2,O2⟩
   obtain ⟨z0,z1,z2,z3,z4,z5,z6,z7⟩:=z
   have hb3:Below w2.heap.size w2 (w2.alloc (.cells #[.int .i64 z0,.int .i64 z1,.int .i64 z2,.int .i64 z3,.int .i64 z4,.int .i64 z5,.int .i64 z6,.int .i64 z7] 81)):=(Below.refl _ _).alloc (Nat.le_refl _) _
   have hqr:=HK.out.2.2.2.1
   have hq2:=(O2.block w.heap.size (lt_of_block hqr) (fun e=>HK.out.2.2.2.2 (.inl e))).trans hqr
   have hq3:=(hb3.block w.heap.size (lt_of_block hq2)).trans hq2
   obtain ⟨k0,k1,k2,k3,k4,k5,k6,k7,_⟩:=Go.Proofs.YtepoepmndckmaaaGreatDoor.S.cells8_of hq3
   obtain ⟨l0,l1,l2,l3,l4,l5,l6,l7,_⟩:=Go.Proofs.YtepoepmndckmaaaGreatDoor.S.cells8_of (heap_alloc_new w2 (.cells #[.int .i64 z0,.int .i64 z1,.int .i64 z2,.int .i64 z3,.int .i64 z4,.int .i64 z5,.int .i64 z6,.int .i64 z7] 81))
   have HS2:=hid (And.intro s2 V2)
   have hM2:Sh.Moves (AllB F1 a n) wr (AllB F1 a n) w2:=⟨O2.mono fun b e=>.inl e,fun _ e=>.inl e⟩
   have HB3:=hid (And.intro hb3 (And.intro hq2 hM2))
   have hKK:(x0%2).toNat=k:=by have:=HG.out.1;omega
   have HKK:=hid hKK
   have say4:∀w4,Below w2.heap.size w2 w4->Calls Tryz.prog 93 #[.pointer (some ⟨v,0,none⟩),.int .i64 j,.agg #[.int .i64 x0,.int .i64 x1,.int .i64 x2,.int .i64 x3,.int .i64 x4,.int .i64 x5,.int .i64 x6,.int .i64 x7]] w4 fun e w'=>∃y:Int,e=.returned (.int .i64 y)/\∃o' S',SuR S2 j (b.o j) (x0%2).toNat (Go.Proofs.YtepoepmndckmaaaGreatDoor.S.encL (⟨x0,x1,(j:Int),x3,x4,x5,x6,x7⟩:SuP).nums) y o' S'/\VGoes B W w4 w' v p t n mo mu s base a (put1 b.o j o') g S' F1:=fun w4 hb4 =>
    sayOn_rel (V2.grown hb4) hT hTB hWi hWB j hlt ⟨x0,x1,x2,x3,x4,x5,x6,x7⟩ (HH.out.2.2.2.1 j hlt) (s2.len.trans (HKP.out.len.trans HH.out.2.1)) (by rw [s2.sectors,HKP.out.sectors];exact HH.out.2.2.1) (m:=m+3*n) (fun q hq=>by
     rw [s2.disks] at hq
     have:=HK.out.1.waits HH.out.2.2.2.2.2 q hq
     omega) (by omega)
   have HSA:=hid say4
   clear say4 s2 V2 O2 hq2 hq3 hqr hM2 hb3 hKK
   cases b2
   ·have hnone:=hbn rfl
    have HNO:=hid (show ∀y,sayO b.S j k=some y->alikeB y ⟨x0,x1,x2,x3,x4,x5,x6,x7⟩=false from fun y hy=>by rw [HSO.out,hnone] at hy;cases hy)
    have HSN:=hid (HSA.out _ HB3.out.1)
    have HM4:Hid (Sh.Moves (AllB F1 a n) wr (AllB F1 a n) (w2.alloc (.cells #[.int .i64 z0,.int .i64 z1,.int .i64 z2,.int .i64 z3,.int .i64 z4,.int .i64 z5,.int .i64 z6,.int .i64 z7] 81))):=hid (HB3.out.2.2.trans (moves_up HB3.out.1))
    have HQ4:Hid ((w2.alloc (.cells #[.int .i64 z0,.int .i64 z1,.int .i64 z2,.int .i64 z3,.int .i64 z4,.int .i64 z5,.int .i64 z6,.int .i64 z7] 81)).heap[w.heap.size]?=some (.cells #[.int .i64 x0,.int .i64 x1,.int .i64 x2,.int .i64 x3,.int .i64 x4,.int .i64 x5,.int .i64 x6,.int .i64 x7] 81 (0,0))/\¬AllB F1 a n w.heap.size):=hid ⟨(HB3.out.1.block w.heap.size (lt_of_block HB3.out.2.1)).trans HB3.out.2.1,HK.out.2.2.2.2⟩
    clear hnone hb1 hbn HSA HSY
    unfold Go.Proofs.YtepoepmndckmaaaGreatDoor.S.Sup.val
    simp only [Go.Proofs.YtepoepmndckmaaaGreatDoor.S.Sup.cells]
    go_wp2_with fail
    generalize w2.alloc (.cells #[.int .i64 z0,.int .i64 z1,.int .i64 z2,.int .i64 z3,.int .i64 z4,.int .i64 z5,.int .i64 z6,.int .i64 z7] 81)=w4 at *
    clear k0 k1 k2 k3 k4 k5 k6 k7 l0 l1 l2 l3 l4 l5 l6 l7
    refine HSN.out.mono ?_
    rintro e w5 ⟨y0,rfl,o5,S5,hSu,F5,V5,m5⟩
    rw [HKK.out] at hSu
    have hbe:=butDead_any y0
    have HST:Hid (AgStep ⟨x0,x1,x2,x3,x4,x5,x6,x7⟩ k j b (bd y0) ⟨S5,put1 b.o j o5⟩):=hid (.other S2 y0 o5 S5 HS2.out.1 HNO.out hSu)
    have hM5:=HK.out.2.2.1.trans ((show Sh.Moves (AllB F1 a n) wr (AllB F1 a n) w4 from HM4.out).trans m5)
    have hq4l:=lt_of_block HQ4.out.1
    have hq5:=(m5.1.block w.heap.size hq4l HQ4.out.2).trans HQ4.out.1
    have hn5:¬AllB F5 a n w.heap.size:=fun e=>(m5.2 _ e).elim HQ4.out.2 (fun e=>by omega)
    have HV5:=hid (And.intro V5 (And.intro hM5 (And.intro hq5 hn5)))
    clear hSu V5 m5 hM5 hq4l hq5 hn5 HSN
    generalize bd y0=yb at *
    by_cases hy:yb=0
    ·subst hy
     have HR:Hid (AgRel B W w v p t n mo mu s base a o g S F ⟨x0,x1,x2,x3,x4,x5,x6,x7⟩ k (j+1) w5):=hid ⟨⟨S5,put1 b.o j o5⟩,F5,.snoc HK.out.1 HST.out,HV5.out.1,HV5.out.2.1,HV5.out.2.2.1,HV5.out.2.2.2⟩
     clear HV5 HST
     go_wp2_with (go_at_call 92;refine (hbe _).mono ?_;rintro e w' ⟨rfl,rfl⟩)
     go_roundw
     case rel=>exact ⟨j+1,by omega,by go_num,HR⟩
     case measure=>simp [intOf];omega
    ·have hqn:(yb == 0)=false:=by simpa using hy
     have HAG:Hid (AgR n ⟨x0,x1,x2,x3,x4,x5,x6,x7⟩ k ⟨S,o⟩ yb ⟨S5,put1 b.o j o5⟩):=hid (.inr ⟨hy,j,b,hlt,HK.out.1,HST.out⟩)
     clear HST hy
     go_wp2_with (go_at_call 92;refine (hbe _).mono ?_;rintro e w' ⟨rfl,rfl⟩)
     go_ret
     exact ⟨yb,_,F5,rfl,HAG.out,HV5.out.1,HV5.out.2.1⟩
   ·have hsome:=hb1 rfl
    have HAL:=hid (fun w=>alike_any z0 z1 z2 z3 z4 z5 z6 z7 x0 x1 x2 x3 x4 x5 x6 x7 w)
    have hAB:(z0 == x0 && (z1 == x1 && (z3 == x3 && (z4 == x4 && (z5 == x5 && (z6 == x6 && z7 == x7))))))=alikeB ⟨z0,z1,z2,z3,z4,z5,z6,z7⟩ ⟨x0,x1,x2,x3,x4,x5,x6,x7⟩:=rfl
    rw [hAB] at HAL
    have HSS:Hid (sayO b.S j k=some ⟨z0,z1,z2,z3,z4,z5,z6,z7⟩):=hid (HSO.out.trans hsome)
    clear hAB hsome hb1 hbn HSY
    generalize hal:alikeB ⟨z0,z1,z2,z3,z4,z5,z6,z7⟩ ⟨x0,x1,x2,x3,x4,x5,x6,x7⟩=al at *
    have HLA:=hid hal
    clear hal
    unfold Go.Proofs.YtepoepmndckmaaaGreatDoor.S.Sup.val
    simp only [Go.Proofs.YtepoepmndckmaaaGreatDoor.S.Sup.cells]
    go_wp2_with fail
    generalize hw3:w2.alloc (.cells #[.int .i64 z0,.int .i64 z1,.int .i64 z2,.int .i64 z3,.int .i64 z4,.int .i64 z5,.int .i64 z6,.int .i64 z7] 81)=w3 at *
    refine (HAL.out w3).mono ?_
    rintro e w4 ⟨rfl,hb4⟩
    have hb24:=HB3.out.1.trans (hb4.mono HB3.out.1.size)
    have hq4:=(hb24.block w.heap.size (lt_of_block HB3.out.2.1)).trans HB3.out.2.1
    clear k0 k1 k2 k3 k4 k5 k6 k7 l0 l1 l2 l3 l4 l5 l6 l7 hw3
    obtain ⟨k0,k1,k2,k3,k4,k5,k6,k7,_⟩:=Go.Proofs.YtepoepmndckmaaaGreatDoor.S.cells8_of hq4
    have HSN:=hid (HSA.out _ hb24)
    have HM4:Hid (Sh.Moves (AllB F1 a n) wr (AllB F1 a n) w4):=hid (HB3.out.2.2.trans (moves_up hb24))
    have HQ4:Hid (w4.heap[w.heap.size]?=some (.cells #[.int .i64 x0,.int .i64 x1,.int .i64 x2,.int .i64 x3,.int .i64 x4,.int .i64 x5,.int .i64 x6,.int .i64 x7] 81 (0,0))/\¬AllB F1 a n w.heap.size):=hid ⟨hq4,HK.out.2.2.2.2⟩
    have HV4:=hid (HS2.out.2.grown hb24)
    clear hb4 hb24 hq4 HSA HAL HB3
    cases al
    ·have HNO:=hid (show ∀y,sayO b.S j k=some y->alikeB y ⟨x0,x1,x2,x3,x4,x5,x6,x7⟩=false from fun y hy=>by
      rw [HSS.out] at hy
      injection hy with hy
      rw [<- hy]
      exact HLA.out)
     go_wp2_with fail
     clear k0 k1 k2 k3 k4 k5 k6 k7
     refine HSN.out.mono ?_
     rintro e w5 ⟨y0,rfl,o5,S5,hSu,F5,V5,m5⟩
     rw [HKK.out] at hSu
     have hbe:=butDead_any y0
     have HST:Hid (AgStep ⟨x0,x1,x2,x3,x4,x5,x6,x7⟩ k j b (bd y0) ⟨S5,put1 b.o j o5⟩):=hid (.other S2 y0 o5 S5 HS2.out.1 HNO.out hSu)
     have hM5:=HK.out.2.2.1.trans ((show Sh.Moves (AllB F1 a n) wr (AllB F1 a n) w4 from HM4.out).trans m5)
     have hq4l:=lt_of_block HQ4.out.1
     have hq5:=(m5.1.block w.heap.size hq4l HQ4.out.2).trans HQ4.out.1
     have hn5:¬AllB F5 a n w.heap.size:=fun e=>(m5.2 _ e).elim HQ4.out.2 (fun e=>by omega)
     have HV5:=hid (And.intro V5 (And.intro hM5 (And.intro hq5 hn5)))
     clear hSu V5 m5 hM5 hq4l hq5 hn5 HSN
     generalize bd y0=yb at *
     by_cases hy:yb=0
     ·subst hy
      have HR:Hid (AgRel B W w v p t n mo mu s base a o g S F ⟨x0,x1,x2,x3,x4,x5,x6,x7⟩ k (j+1) w5):=hid ⟨⟨S5,put1 b.o j o5⟩,F5,.snoc HK.out.1 HST.out,HV5.out.1,HV5.out.2.1,HV5.out.2.2.1,HV5.out.2.2.2⟩
      clear HV5 HST
      go_wp2_with (go_at_call 92;refine (hbe _).mono ?_;rintro e w' ⟨rfl,rfl⟩)
      go_roundw
      case rel=>exact ⟨j+1,by omega,by go_num,HR⟩
      case measure=>simp [intOf];omega
     ·have hqn:(yb == 0)=false:=by simpa using hy
      have HAG:Hid (AgR n ⟨x0,x1,x2,x3,x4,x5,x6,x7⟩ k ⟨S,o⟩ yb ⟨S5,put1 b.o j o5⟩):=hid (.inr ⟨hy,j,b,hlt,HK.out.1,HST.out⟩)
      clear HST hy
      go_wp2_with (go_at_call 92;refine (hbe _).mono ?_;rintro e w' ⟨rfl,rfl⟩)
      go_ret
      exact ⟨yb,_,F5,rfl,HAG.out,HV5.out.1,HV5.out.2.1⟩
    ·have HR:Hid (AgRel B W w v p t n mo mu s base a o g S F ⟨x0,x1,x2,x3,x4,x5,x6,x7⟩ k (j+1) w4):=hid ⟨⟨S2,b.o⟩,F1,.snoc HK.out.1 (.says S2 _ HS2.out.1 HSS.out HLA.out),HV4.out,HK.out.2.2.1.trans HM4.out,HQ4.out.1,HQ4.out.2⟩
     clear HSN k0 k1 k2 k3 k4 k5 k6 k7
     go_wp2
     go_roundw
     case rel=>exact ⟨j+1,by omega,by go_num,HR⟩
     case measure=>simp [intOf];omega
  ·obtain rfl:j=n:=by omega
   obtain ⟨b,F1,hst,V1,M1,hq,hnq⟩:=hrel.out
   have HR:=hid (And.intro hst (And.intro V1 M1))
   clear hst V1 M1 hq hnq hrel hrel0
   go_wp2
   go_ret
   exact ⟨0,b,F1,rfl,.inl ⟨rfl,HR.out.1⟩,HR.out.2.1,HR.out.2.2⟩
end
def newestOf (l:List SuP):SuP:=Go.Proofs.YtepoepmndckmaaaGreatDoor.S.supAt l (Go.Proofs.YtepoepmndckmaaaGreatDoor.S.nwst l l.length)
def slotOf (x:SuP):Nat:=(x.gen%2).toNat
inductive OpenR (n:Nat) (S:Sh.Sf):Int->Stt->Prop
 | off:S.off≠false->OpenR n S 3 ⟨S,fun _=>-1⟩
 | none (S1:Sh.Sf):S.off=false->Same S S1->sayTo S n 0=[]->OpenR n S 8 ⟨S1,fun _=>-1⟩
 | agree (S1:Sh.Sf) (y:Int) (b:Stt):S.off=false->Same S S1->sayTo S n 0≠[]->AgR n (newestOf (sayTo S n 0)) (slotOf (newestOf (sayTo S n 0))) ⟨S1,fun _=>-1⟩ y b->y≠0->OpenR n S y b
 | replay (S1:Sh.Sf) (b:Stt) (y:Int) (t:Stt) (U:Set0):S.off=false->Same S S1->sayTo S n 0≠[]->AgR n (newestOf (sayTo S n 0)) (slotOf (newestOf (sayTo S n 0))) ⟨S1,fun _=>-1⟩ 0 b ->
   RplR n (newestOf (sayTo S n 0)).logs.toNat (newestOf (sayTo S n 0)) (newestOf (sayTo S n 0)).mem.toNat (newestOf (sayTo S n 0)).str.toNat b noSet y t U->y≠0->OpenR n S y t
 | flush (S1:Sh.Sf) (b t:Stt) (U:Set0) (y:Int) (e:Stt) (D' U':Set0):S.off=false->Same S S1->sayTo S n 0≠[]->AgR n (newestOf (sayTo S n 0)) (slotOf (newestOf (sayTo S n 0))) ⟨S1,fun _=>-1⟩ 0 b ->
   RplR n (newestOf (sayTo S n 0)).logs.toNat (newestOf (sayTo S n 0)) (newestOf (sayTo S n 0)).mem.toNat (newestOf (sayTo S n 0)).str.toNat b noSet 0 t U->FlR n (newestOf (sayTo S n 0)).logs.toNat noSet U t.S y e D' U'->OpenR n S y e
theorem mem_newest {l:List SuP} (h:l≠[]):newestOf l∈l:=by
 have hl:0<l.length:=Nat.pos_of_ne_zero fun e=>h (List.eq_nil_of_length_eq_zero e)
 have hn:=Go.Proofs.YtepoepmndckmaaaGreatDoor.S.nwst_lt l l.length l.length hl (Nat.le_refl _)
 unfold newestOf Go.Proofs.YtepoepmndckmaaaGreatDoor.S.supAt
 rw [List.getD_eq_getElem?_getD,List.getElem?_eq_getElem hn]
 exact List.getElem_mem hn
theorem mem_sayTo {S:Sh.Sf} {n:Nat} {x:SuP} (h:x∈sayTo S n 0):∃d b,d<n/\b<2/\sayO S d b=some x:=by
 unfold sayTo at h
 obtain ⟨⟨d,b⟩,h1,h2⟩:=List.mem_filterMap.1 h
 obtain ⟨h3,h4⟩:=slotsTo_all h1
 exact ⟨d,b,h3,h4,h2⟩
theorem supCells_at:∀(l:List SuP) (i j:Nat),i<l.length->j<8->(supCells l)[i*8+j]?=(Go.Proofs.YtepoepmndckmaaaGreatDoor.S.supAt l i).cells[j]?
 | [],_,_,h,_=>by simp at h
 | s :: t,0,j,_,hj=>by
  show (s.cells.toList++supCells t)[0*8+j]?=_
  rw [Nat.zero_mul,Nat.zero_add,List.getElem?_append_left (by show j<8;exact hj)]
  show s.cells.toList[j]?=s.cells[j]?
  simp
 | s :: t,i+1,j,h,hj=>by
  have h8:s.cells.toList.length=8:=rfl
  show (s.cells.toList++supCells t)[(i+1)*8+j]?=_
  rw [List.getElem?_append_right (by omega),h8,show (i+1)*8+j-8=i*8+j by omega]
  exact supCells_at t i j (by simpa using h) hj
theorem supsAre_own {w:World} {base:Nat} {u:Value} {l:List SuP} (h:SupOwn w base u l):(l=[]/\∃A c,u=.slice A 0 c)\/(l≠[]/\∃g c,u=.slice (some ⟨g,0,none⟩) l.length c/\base<=g/\g<w.heap.size/\(∀wX:World,wX.heap[g]?=w.heap[g]?->∀i j v,i<l.length->(Go.Proofs.YtepoepmndckmaaaGreatDoor.S.supAt l i).cells[j]?=some v->wX.cell? ⟨g,i*8+j,none⟩=some v)):=by
 by_cases hl:l=[]
 ·subst hl
  refine .inl ⟨rfl,?_⟩
  rcases h.2 with ⟨rfl,_⟩ | ⟨g,cap,cur,rfl,_⟩
  ·exact ⟨none,0,rfl⟩
  ·exact ⟨_,cap,rfl⟩
 ·refine .inr ⟨hl,?_⟩
  rcases h.2 with ⟨_,h0⟩ | ⟨g,cap,cur,rfl,hb,hh,hnc,hm,hs,ht⟩
  ·exact absurd (List.eq_nil_of_length_eq_zero h0) hl
  ·refine ⟨g,cap,rfl,hb,lt_of_block hh,fun wX hX i j v hi hv=>?_⟩
   have hj:j<8:=(Array.getElem?_eq_some_iff.1 hv).1
   rw [cell_of_row _ _ (i*8+j) _ _ _ (hX.trans hh)]
   have h1:=supCells_at l i j hi hj
   rw [hv,<- ht,List.getElem?_take,if_pos (by omega)] at h1
   rw [<- Array.getElem?_toList];exact h1
theorem supsAre_of {w:World} {g:Nat} {l:List SuP} (hg:g<w.heap.size) (h:∀i j v,i<l.length->(Go.Proofs.YtepoepmndckmaaaGreatDoor.S.supAt l i).cells[j]?=some v->w.cell? ⟨g,i*8+j,none⟩=some v):Go.Proofs.YtepoepmndckmaaaGreatDoor.S.SupsAre w w.heap.size (some ⟨g,0,none⟩) l.length l :=
 ⟨rfl,fun _=>⟨g,0,rfl,hg,fun i s hs j v hv=>by
  obtain ⟨hi,e⟩:=List.getElem?_eq_some_iff.1 hs
  rw [Nat.zero_add]
  refine h i j v hi ?_
  unfold Go.Proofs.YtepoepmndckmaaaGreatDoor.S.supAt
  rw [List.getD_eq_getElem?_getD,hs]
  exact hv⟩⟩
theorem AgR.keep {n k:Nat} {x:SuP} {a b:Stt} {y:Int} (h:AgR n x k a y b):b.S.disks.length=a.S.disks.length/\b.S.sectors=a.S.sectors:=by
 rcases h with ⟨_,h⟩ | ⟨_,j,c,_,h,h2⟩
 ·exact ⟨h.keep.len,h.keep.sectors⟩
 ·exact ⟨h2.keep.len.trans h.keep.len,h2.keep.sectors.trans h.keep.sectors⟩
theorem AgR.waits {n k m:Nat} {x:SuP} {a b:Stt} {y:Int} (hn:n<=17) (h:AgR n x k a y b) (hL:∀x∈a.S.disks,x.waits.length<=m):∀x∈b.S.disks,x.waits.length<=m+60:=by
 rcases h with ⟨_,h⟩ | ⟨_,j,c,_,h,h2⟩
 ·intro z hz
  have:=h.waits hL z hz
  omega
 ·intro z hz
  have:=h2.waits (h.waits hL) z hz
  omega
theorem RplR.zero {n LL M St:Nat} {s:SuP} {a b:Stt} {U U':Set0} (h:RplR n LL s M St a U 0 b U'):RpSteps LL s M St (slotsTo LL n 0) a U b U':=by
 rcases h with ⟨_,h⟩ | ⟨h0,_⟩
 ·exact h
 ·exact absurd rfl h0
theorem FlR.none_left {n L:Nat} {D U D' U':Set0} {S:Sh.Sf} {y:Int} {b:Stt} (h:FlR n L D U S y b D' U') (h0:y=0):D'=noSet/\U'=noSet:=by
 cases h with
 | first o' e=>exact absurd h0 e
 | slots o1 y b _ _ _ e=>exact absurd h0 e
 | again o1 o' b _ _ _ e=>exact absurd h0 e
 | none o' _ _=>exact ⟨rfl,rfl⟩
 | all o1 o' b _ _ _ _=>exact ⟨rfl,rfl⟩
theorem fits_of {n nb d b:Nat} {x:SuP} {S:Sh.Sf} (h:SayIs n nb d b x) (hn:S.disks.length=n) (hb:blk S.sectors=nb):Fits n x.logs.toNat x x.mem.toNat x.str.toNat S:=by
 obtain ⟨hr,h2,h3,h4,h5⟩:=h
 obtain ⟨r1,r2,r3,r4,r5,r6,r7,r8⟩:=Go.Proofs.YtepoepmndckmaaaGreatDoor.S.right_parts hr
 have hm:x.most<=x.str:=by unfold Go.Proofs.YtepoepmndckmaaaGreatDoor.S.Sup.most;split<;>omega
 unfold Fit at h4
 exact ⟨by omega,by omega,by omega,by omega,by omega,by omega,by omega,by omega,by omega,by omega,by omega,⟨by omega,by omega⟩,hn,by omega⟩
section
variable {B:Nat} {W w w':World} {p n:Nat} {S:Sh.Sf} {F:Nat->Prop}
def OpenQ (B:Nat) (W w:World) (p n:Nat) (S:Sh.Sf) (F:Nat->Prop) (e:Ending) (w':World):Prop :=
  ∃(y:Int) (t:Stt),OpenR n S y t /\
    ((y≠0/\e=.returned (.tuple #[.pointer none,.int .i64 y])/\∃F',Sh.At B W w' p t.S F'/\Sh.Moves F w F' w') \/
     (y=0/\∃(J:Vk) (F':Nat->Prop),e=.returned (.tuple #[.pointer (some ⟨J.v,0,none⟩),.int .i64 0])/\J.B=B/\J.W=W/\J.p=p/\J.n=n/\(newestOf (sayTo S n 0)).logs=(J.L:Int)/\Vr J w' (newestOf (sayTo S n 0)) t.o t.S F' noSet noSet/\Sh.Moves F w (AllV J F') w'))
set_option maxRecDepth 20000 in
theorem open_off (h:Sh.At B W w p S F) (hoff:S.off=true):Calls Tryz.prog 19 #[.pointer (some ⟨p,0,none⟩)] w (OpenQ B W w p n S F):=by
 have HO:=hid (by
  obtain ⟨D,gs,q⟩:=h.shelf
  exact Sh.off_any q)
 rw [hoff] at HO
 have HH:=hid (And.intro h hoff)
 clear h hoff
 go_enter Tryz.func19,Tryz.ntmps19
 go_wp2_with (go_at_call 25;refine HO.out.mono ?_;rintro e w' ⟨rfl,rfl⟩)
 go_ret2
 exact ⟨3,⟨S,fun _=>-1⟩,.off (by rw [HH.out.2];simp),.inl ⟨by decide,rfl,F,HH.out.1,moves_up (Below.refl _ _)⟩⟩
set_option maxRecDepth 20000 in
set_option maxHeartbeats 8000000 in
theorem open_on (h:Sh.At B W w p S F) (hn:S.disks.length=n) (h1:1<=n) (h17:n<=17) (hT:Tabs W) (hTB:max 0 1+1<=B) (hWi:Go.Proofs.YtepoepmndckmaaaGreatDoor.S.Wid W) (hWB:2+1<=B) (hFl:Flds W) (hFB:4+1<=B) (hP:Go.Proofs.YtepoepmndckmaaaGreatDoor.L.Tab W) (hPB:3+1<=B)
  (hoff:S.off=false) (hbb:2<=blk S.sectors) (hsay:∀d b x,d<n->b<2->sayO S d b=some x->SayIs n (blk S.sectors) d b x) (hdk:∀d b x e,d<n->b<2->e<n->sayO S d b=some x->({ x with disk:=(e:Int) }:SuP).right=true)
  {m:Nat} (hL:∀k∈S.disks,k.waits.length<=m) (hm:m<=100000):Calls Tryz.prog 19 #[.pointer (some ⟨p,0,none⟩)] w (OpenQ B W w p n S F):=by
 have HO:=hid (by
  obtain ⟨D,gs,q⟩:=h.shelf
  exact Sh.off_any q)
 rw [hoff] at HO
 have HOV:=hid (over_ok w p n h.shelf hn h1 h17)
 have HH:=hid (And.intro h (And.intro hn (And.intro hoff (And.intro hbb (And.intro hsay (And.intro hdk hL))))))
 clear h hn hoff hbb hsay hdk hL
 go_enter Tryz.func19,Tryz.ntmps19
 go_wp2_with (go_at_call 25;refine HO.out.mono ?_;rintro e w' ⟨rfl,rfl⟩)
 refine HOV.out.mono ?_
 rintro e w1 ⟨v,t,mo,mu,a,rfl,hO⟩
 have V1:=over_vo HH.out.1 hO
 have HNE:Hid (v≠t/\mo≠v/\mo≠t/\mo≠mu/\mu≠v/\mu≠t):=hid (by obtain ⟨_,o2,o3,o4⟩:=hO.ord;omega)
 have HAW:Hid (∀b,AllB F a n b\/b=v\/b=t\/b=mo\/b=mu->F b\/w.heap.size<=b):=hid fun b hb=>by
  obtain ⟨o1,o2,o3,o4⟩:=hO.ord
  rcases hb with (e | ⟨i,hi,rfl⟩) | rfl | rfl | rfl | rfl
  ·exact .inl e
  ·have:=hO.low i hi;exact .inr (by omega)
  all_goals exact .inr (by omega)
 have HSG:=hid (sayings_any V1 hT hTB hWi hWB HH.out.2.1 HH.out.2.2.2.1 HH.out.2.2.2.2.1)
 have HO1:=hid (And.intro hO V1)
 clear hO V1 HO HOV
 go_wp2_with fail
 refine HSG.out.mono ?_
 rintro e w2 ⟨u,rfl,⟨S2,s2,V2,O2⟩,hown⟩
 have HV2:=hid (And.intro s2 (And.intro V2 O2))
 clear s2 V2 O2 HSG
 have HLE:=hid (sayTo_le S n 0)
 have HME:=hid (fun (x:SuP) (e:x∈sayTo S n 0)=>mem_sayTo e)
 have HRL:Hid (∀y t,OpenR n S y t->OpenR n S y t):=hid fun _ _ e=>e
 have HQ:∀(e:Ending) (w':World),OpenQ B W w p n S F e w'->OpenQ B W w p n S F e w':=fun _ _ e=>e
 rcases supsAre_own hown with ⟨hl,A,c,rfl⟩ | ⟨hl,gq,c,rfl,hg1,hg2,hcell⟩
 ·have HNL:=hid hl
  have HNW:=hid (Go.Proofs.YtepoepmndckmaaaGreatDoor.S.newest_any A 0 c w2.heap.size [] w2 ⟨rfl,fun e=>absurd e (by decide)⟩ (Nat.le_refl _) (by decide))
  rw [show decide (0<0)=false from rfl] at HNW
  clear hown hl
  go_wp2_with fail
  refine HNW.out.mono ?_
  rintro e w3 ⟨rfl,hb3⟩
  obtain ⟨s2,V2,O2⟩:=HV2.out
  have HB3:=hid (And.intro s2 (And.intro V2 (And.intro O2 hb3)))
  clear s2 V2 O2 hb3
  go_wp2
  go_ret2
  obtain ⟨s2,V2,O2,hb3⟩:=HB3.out
  refine ⟨8,⟨S2,fun _=>-1⟩,.none S2 HH.out.2.2.1 s2 HNL.out,.inl ⟨by decide,rfl,F,(V2.grown hb3).ds.on,?_⟩⟩
  exact (moves_up HO1.out.1.bel).trans (⟨O2,fun b e=>.inl e⟩:Sh.Moves F w1 F w2) |>.trans (moves_up hb3)
 ·have HNL:=hid hl
  have hpos:0<(sayTo S n 0).length:=Nat.pos_of_ne_zero fun e=>hl (List.eq_nil_of_length_eq_zero e)
  have hlt:=Go.Proofs.YtepoepmndckmaaaGreatDoor.S.nwst_lt (sayTo S n 0) (sayTo S n 0).length (sayTo S n 0).length hpos (Nat.le_refl _)
  have HNW:=hid (Go.Proofs.YtepoepmndckmaaaGreatDoor.S.newest_any (some ⟨gq,0,none⟩) (sayTo S n 0).length c w2.heap.size (sayTo S n 0) w2 (supsAre_of hg2 (hcell w2 rfl)) (Nat.le_refl _) (by have:=HLE.out;omega))
  rw [decide_eq_true hpos] at HNW
  have hxm:=mem_newest hl
  obtain ⟨dx,bx,hdx,hbx,hsx⟩:=HME.out _ hxm
  have HSI:=hid (HH.out.2.2.2.2.1 dx bx _ hdx hbx hsx)
  have HDK:=hid (fun e he=>HH.out.2.2.2.2.2.1 dx bx _ e hdx hbx he hsx)
  have hc:∀wX:World,wX.heap[gq]?=w2.heap[gq]?->∀j v,(newestOf (sayTo S n 0)).cells[j]?=some v->wX.cell? ⟨gq,Go.Proofs.YtepoepmndckmaaaGreatDoor.S.nwst (sayTo S n 0) (sayTo S n 0).length*8+j,none⟩=some v:=fun wX hX j v hv=>hcell wX hX _ j v hlt hv
  have HGQ:=hid (And.intro hg1 hg2)
  have HRW:=hid (fun (y:Int) (t:Stt) (e:OpenR n S y t)=>e)
  have HQ:∀(e:Ending) (w':World),OpenQ B W w p n S F e w'->OpenQ B W w p n S F e w':=fun _ _ e=>e
  unfold OpenQ at HQ ⊢
  clear hown hl hcell hg1 hg2 hsx hxm
  generalize hxe:newestOf (sayTo S n 0)=x at *
  have HXE:=hid hxe
  clear hxe
  generalize Go.Proofs.YtepoepmndckmaaaGreatDoor.S.nwst (sayTo S n 0) (sayTo S n 0).length=i at *
  obtain ⟨x0,x1,x2,x3,x4,x5,x6,x7⟩:=x
  have HC:Hid (∀wX:World,wX.heap[gq]?=w2.heap[gq]?->wX.cell? ⟨gq,i*8,none⟩=some (.int .i64 x0)/\wX.cell? ⟨gq,i*8+1,none⟩=some (.int .i64 x1)/\wX.cell? ⟨gq,i*8+2,none⟩=some (.int .i64 x2)/\wX.cell? ⟨gq,i*8+3,none⟩=some (.int .i64 x3)/\wX.cell? ⟨gq,i*8+4,none⟩=some (.int .i64 x4)/\wX.cell? ⟨gq,i*8+5,none⟩=some (.int .i64 x5)/\wX.cell? ⟨gq,i*8+6,none⟩=some (.int .i64 x6)/\wX.cell? ⟨gq,i*8+7,none⟩=some (.int .i64 x7)):=hid fun wX hX=>⟨hc wX hX 0 _ rfl,hc wX hX 1 _ rfl,hc wX hX 2 _ rfl,hc wX hX 3 _ rfl,hc wX hX 4 _ rfl,hc wX hX 5 _ rfl,hc wX hX 6 _ rfl,hc wX hX 7 _ rfl⟩
  clear hc
  go_wp2_with fail
  refine HNW.out.mono ?_
  rintro e w3 ⟨rfl,hb3⟩
  obtain ⟨k0,k1,k2,k3,k4,k5,k6,k7⟩:=HC.out w3 (hb3.block gq HGQ.out.2)
  have h17:n<=17:=by omega
  have HB3:Hid (Same S S2/\Vo B W w3 v p t n mo mu sup0 0 a (fun _=>-1) (fun _=>none) S2 F/\Sh.Only F w w3/\(∀b,AllB F a n b->b<w1.heap.size)/\w2.heap.size<=w3.heap.size/\w3.heap[gq]?=w2.heap[gq]?/\w3.heap[mo]?=some (.map #[] 0)/\w3.heap[mu]?=some (.map #[] 0)):=hid (by
   obtain ⟨s2,V2,O2⟩:=HV2.out
   obtain ⟨hO,V1⟩:=HO1.out
   have hap:=V1.apart
   have l1:=(Array.getElem?_eq_some_iff.1 hO.opens).1
   have l2:=(Array.getElem?_eq_some_iff.1 hO.used).1
   have nF:∀b,w.heap.size<=b->¬F b:=fun b hb e=>by have:=HH.out.1.shelf.ltF e;omega
   obtain ⟨o1,o2,o3,o4⟩:=hO.ord
   have p1:=(O2.block mo l1 (nF mo (by omega))).trans hO.opens
   have p2:=(O2.block mu l2 (nF mu (by omega))).trans hO.used
   exact ⟨s2,V2.grown hb3,((only_below F hO.bel).trans O2 (fun b e=>.inl e)).trans (only_below F hb3) (fun b e=>.inl e),fun b e=>V1.ds.lt _ e,hb3.size,hb3.block gq HGQ.out.2,(hb3.block mo (Nat.lt_of_lt_of_le l1 O2.size)).trans p1,(hb3.block mu (Nat.lt_of_lt_of_le l2 O2.size)).trans p2⟩)
  have HAG:=hid (agree_any HB3.out.2.1 hT hTB hWi hWB (HB3.out.1.len.trans HH.out.2.1) (by rw [HB3.out.1.sectors];exact HH.out.2.2.2.1) ⟨x0,x1,x2,x3,x4,x5,x6,x7⟩ (slotOf ⟨x0,x1,x2,x3,x4,x5,x6,x7⟩) (by
    show x0%2=((x0%2).toNat:Int)
    omega) (Go.Proofs.YtepoepmndckmaaaGreatDoor.S.right_parts HSI.out.1).1 HDK.out (fun d y hd hy=>by
    rw [sayO_same HB3.out.1] at hy
    rw [HB3.out.1.sectors]
    refine HH.out.2.2.2.2.1 d _ y hd ?_ hy
    show (x0%2).toNat<2
    omega) (m:=m) (by rw [HB3.out.1.disks];exact HH.out.2.2.2.2.2.2) (by omega))
  rw [show (⟨x0,x1,x2,x3,x4,x5,x6,x7⟩:SuP).val=.agg #[.int .i64 x0,.int .i64 x1,.int .i64 x2,.int .i64 x3,.int .i64 x4,.int .i64 x5,.int .i64 x6,.int .i64 x7] from rfl] at HAG
  clear hb3 HNW HV2
  go_wp2_with fail
  refine HAG.out.mono ?_
  rintro e w4 ⟨y,b4,F4,rfl,hR4,V4,m4⟩
  clear k0 k1 k2 k3 k4 k5 k6 k7 HAG
  have on4:Sh.Only F w w4/\(∀b,AllB F4 a n b->F b\/w.heap.size<=b):=⟨HB3.out.2.2.1.trans m4.1 (fun b e=>HAW.out b (.inl e)),fun b e=>(m4.2 b e).elim (fun e=>HAW.out b (.inl e)) (fun e=>.inr (Nat.le_trans HB3.out.2.2.1.size e))⟩
  by_cases h0:y=0
  ·subst h0
   have hg4:w4.heap[gq]?=w2.heap[gq]?:=(m4.1.block gq (Nat.lt_of_lt_of_le HGQ.out.2 HB3.out.2.2.2.2.1) (fun e=>by have:=HB3.out.2.2.2.1 gq e;have:=HGQ.out.1;omega)).trans HB3.out.2.2.2.2.2.1
   obtain ⟨k0,k1,k2,k3,k4,k5,k6,k7⟩:=HC.out w4 hg4
   have hk4:=hR4.keep
   have hs4:b4.S.sectors=S.sectors:=hk4.2.trans HB3.out.1.sectors
   have hl4:b4.S.disks.length=n:=(hk4.1.trans HB3.out.1.len).trans HH.out.2.1
   have HF:=hid (fits_of HSI.out hl4 (by rw [hs4]))
   obtain ⟨hmo4,hmu4⟩:w4.heap[mo]?=some (.map #[] 0)/\w4.heap[mu]?=some (.map #[] 0):=by
    have hap:=V4.apart
    have hnn:∀b,(b=mo\/b=mu)->¬AllB F a n b:=fun b hb e=>by
     have h2:=HO1.out.2.apart b e
     rcases hb with rfl | rfl
     ·exact h2.2.2.1 rfl
     ·exact h2.2.2.2 rfl
    obtain ⟨_,_,_,_,_,_,p1,p2⟩:=HB3.out
    exact ⟨(m4.1.block mo (Array.getElem?_eq_some_iff.1 p1).1 (hnn mo (.inl rfl))).trans p1,(m4.1.block mu (Array.getElem?_eq_some_iff.1 p2).1 (hnn mu (.inr rfl))).trans p2⟩
   have HAS:=hid (as_ok (L:=x4.toNat) V4 ⟨HNE.out.1,HNE.out.2.1,HNE.out.2.2.2.2.1⟩ hl4 ⟨x0,x1,x2,x3,x4,x5,x6,x7⟩ HF.out.logs HF.out.l1 HF.out.l2 (by have:=HF.out.need;show 2+2*x4.toNat<=_;have e:(⟨x0,x1,x2,x3,x4,x5,x6,x7⟩:SuP).logs.toNat=x4.toNat:=rfl;rw [e] at this;omega))
   rw [show (⟨x0,x1,x2,x3,x4,x5,x6,x7⟩:SuP).val=.agg #[.int .i64 x0,.int .i64 x1,.int .i64 x2,.int .i64 x3,.int .i64 x4,.int .i64 x5,.int .i64 x6,.int .i64 x7] from rfl] at HAS
   have HK4:=hid (And.intro hR4 (And.intro on4 (And.intro hmo4 (And.intro hmu4 (And.intro V4.lt V4.apart)))))
   have HW4:=hid (hR4.waits h17 (m:=m) (by rw [HB3.out.1.disks];exact HH.out.2.2.2.2.2.2))
   clear hg4 hk4 hs4 hl4 hmo4 hmu4 hR4 V4 m4 on4
   go_wp2_with fail
   refine HAS.out.mono ?_
   rintro e w5 ⟨rfl,gn,g5,V5,hg5,hl5,hO5,_⟩
   obtain ⟨hR4,on4,hmo4,hmu4,hlt4,hap4⟩:=HK4.out
   have hne:=HNE.out
   have VR:Vr ⟨B,W,v,p,t,n,mo,mu,x4.toNat,a,gn⟩ w5 ⟨x0,x1,x2,x3,x4,x5,x6,x7⟩ b4.o b4.S F4 noSet noSet :=
    ⟨V5.same_g hg5,hl5,hne,empty_set ((hO5.block mo (Array.getElem?_eq_some_iff.1 hmo4).1 (fun e=>e.elim hne.2.1 hne.2.2.1)).trans hmo4),empty_set ((hO5.block mu (Array.getElem?_eq_some_iff.1 hmu4).1 (fun e=>e.elim hne.2.2.2.2.1 hne.2.2.2.2.2)).trans hmu4)⟩
   have on5:Sh.Moves F w (AllV ⟨B,W,v,p,t,n,mo,mu,x4.toNat,a,gn⟩ F4) w5:=⟨on4.1.trans hO5 (fun b e=>e.elim (fun e=>HAW.out b (.inr (.inl e))) (fun e=>HAW.out b (.inr (.inr (.inl e))))),fun b e=>by
    rcases e with e | e
    ·exact on4.2 b e
    ·exact HAW.out b (.inr e)⟩
   have HRP:=hid (replay_any (mm:=m+60) (u0:=0) VR HF.out hT hTB hFl hFB hP hPB HW4.out (by omega) (Nat.le_refl 0) (by omega))
   have HK5:=hid (And.intro hR4 (And.intro VR on5))
   clear hR4 on4 hmo4 hmu4 hlt4 hap4 hne VR on5 V5 hg5 hl5 hO5 HAS HK4 k0 k1 k2 k3 k4 k5 k6 k7
   go_wp2_with fail
   refine HRP.out.mono ?_
   rintro e w6 ⟨y,t6,U6,rfl,hR6,⟨F6,V6,m6⟩,hs6⟩
   obtain ⟨hR4,VR,on5⟩:=HK5.out
   have on6:=on5.trans m6
   by_cases h0:y=0
   ·subst h0
    have hz6:=hR6.zero
    have HFL:=hid (vFlush_any (mm:=1000000) V6 (HF.out.same hz6.len.1 hz6.len.2) hT hTB (by
     intro z hz
     have:=hz6.waits HW4.out z hz
     rw [slotsTo_length] at this
     have h1:n*x4.toNat<=17*8:=Nat.mul_le_mul h17 HF.out.l2
     have e:(⟨x0,x1,x2,x3,x4,x5,x6,x7⟩:SuP).logs.toNat=x4.toNat:=rfl
     rw [e] at this
     have h3:z.waits.length<=m+60+3*(n*x4.toNat+0):=this
     omega) (by have:=hs6 rfl;omega) (by omega))
    have HK6:=hid (And.intro hR4 (And.intro hR6 on6))
    clear hR4 VR on5 V6 m6 hs6 hR6 on6 HRP HK5
    go_wp2_with fail
    refine HFL.out.mono ?_
    rintro e w7 ⟨y,rfl,t7,D7,U7,hR7,F7,V7,m7⟩
    obtain ⟨hR4,hR6,on6⟩:=HK6.out
    have on7:=on6.trans m7
    have HR:Hid (OpenR n S y t7):=hid (.flush S2 b4 t6 U6 y t7 D7 U7 HH.out.2.2.1 HB3.out.1 HNL.out (by rw [HXE.out];exact hR4) (by rw [HXE.out];exact hR6) (by rw [HXE.out];exact hR7))
    by_cases h0:y=0
    ·subst h0
     obtain ⟨rfl,rfl⟩:=hR7.none_left rfl
     have HE:=hid (And.intro V7 on7)
     have HLL:=hid HF.out.logs
     clear hR4 hR6 on6 hR7 V7 m7 on7 HFL HK6
     go_wp2
     go_ret2
     exact ⟨0,t7,HR.out,.inr ⟨rfl,⟨B,W,v,p,t,n,mo,mu,x4.toNat,a,gn⟩,F7,rfl,rfl,rfl,rfl,rfl,by rw [HXE.out];exact HLL.out,by rw [HXE.out];exact HE.out.1,HE.out.2⟩⟩
    ·have hqq:(y == 0)=false:=by simpa using h0
     have HE:Hid (Sh.At B W w7 p t7.S F7/\Sh.Moves F w F7 w7):=hid ⟨V7.vo.ds.on,on7.1,fun b e=>on7.2 b (.inl (.inl e))⟩
     have H0:=hid h0
     clear hR4 hR6 on6 hR7 V7 m7 on7 HFL HK6 h0
     go_wp2
     go_ret2
     exact ⟨y,t7,HR.out,.inl ⟨H0.out,rfl,F7,HE.out⟩⟩
   ·have hqq:(y == 0)=false:=by simpa using h0
    have HE:Hid (OpenR n S y t6/\Sh.At B W w6 p t6.S F6/\Sh.Moves F w F6 w6):=hid ⟨.replay S2 b4 y t6 U6 HH.out.2.2.1 HB3.out.1 HNL.out (by rw [HXE.out];exact hR4) (by rw [HXE.out];exact hR6) h0,V6.vo.ds.on,on6.1,fun b e=>on6.2 b (.inl (.inl e))⟩
    have H0:=hid h0
    clear hR4 VR on5 V6 m6 hs6 hR6 on6 HRP HK5 h0
    go_wp2
    go_ret2
    exact ⟨y,t6,HE.out.1,.inl ⟨H0.out,rfl,F6,HE.out.2⟩⟩
  ·have hqq:(y == 0)=false:=by simpa using h0
   have HE:Hid (OpenR n S y b4/\Sh.At B W w4 p b4.S F4/\Sh.Moves F w F4 w4):=hid ⟨.agree S2 y b4 HH.out.2.2.1 HB3.out.1 HNL.out (by rw [HXE.out];exact hR4) h0,V4.ds.on,on4.1,fun b e=>on4.2 b (.inl e)⟩
   have H0:=hid h0
   clear hR4 V4 m4 on4 h0
   go_wp2
   go_ret2
   exact ⟨y,b4,HE.out.1,.inl ⟨H0.out,rfl,F4,HE.out.2⟩⟩
theorem open_any (h:Sh.At B W w p S F) (hn:S.disks.length=n) (h1:1<=n) (h17:n<=17) (hT:Tabs W) (hTB:max 0 1+1<=B) (hWi:Go.Proofs.YtepoepmndckmaaaGreatDoor.S.Wid W) (hWB:2+1<=B) (hFl:Flds W) (hFB:4+1<=B) (hP:Go.Proofs.YtepoepmndckmaaaGreatDoor.L.Tab W) (hPB:3+1<=B)
  (hbb:2<=blk S.sectors) (hsay:∀d b x,d<n->b<2->sayO S d b=some x->SayIs n (blk S.sectors) d b x) (hdk:∀d b x e,d<n->b<2->e<n->sayO S d b=some x->({ x with disk:=(e:Int) }:SuP).right=true)
  {m:Nat} (hL:∀k∈S.disks,k.waits.length<=m) (hm:m<=100000):Calls Tryz.prog 19 #[.pointer (some ⟨p,0,none⟩)] w (OpenQ B W w p n S F):=by
 by_cases hoff:S.off=true
 ·exact open_off h hoff
 ·exact open_on h hn h1 h17 hT hTB hWi hWB hFl hFB hP hPB (by simpa using hoff) hbb hsay hdk hL hm
end
theorem cut_midT (x y z:List Nat):cutAt (x++(y++z)) x.length y.length=y:=by simp [cutAt]
theorem headL_formT (f:Nat->Nat) (k:Nat) (hk:k<3):∃z,headL f=preK f k++(putL (f k) 4++z):=by
 unfold headL bodyL
 generalize putL (Nums.sum 0 (preK f 3++List.replicate 108 0)) 4=s
 obtain rfl | rfl | rfl:k=0\/k=1\/k=2:=by omega
 ·exact ⟨putL (f 1) 4++(putL (f 2) 4++(List.replicate 108 0++s)),by simp only [preK,List.append_assoc]⟩
 ·exact ⟨putL (f 2) 4++(List.replicate 108 0++s),by simp only [preK,List.append_assoc]⟩
 ·exact ⟨List.replicate 108 0++s,by simp only [preK,List.append_assoc]⟩
theorem numAt_headT (f:Nat->Nat) (k:Nat) (hk:k<3) (hf:f k<4294967296):numAt (headL f) k=f k:=by
 obtain ⟨z,hz⟩:=headL_formT f k hk
 have h1:=cut_midT (preK f k) (putL (f k) 4) z
 rw [<- hz,preK_length,putL_length] at h1
 unfold numAt
 rw [headL_length,if_pos (by omega),h1,getN_putL]
 exact Nat.mod_eq_of_lt hf
theorem headL_neT (f:Nat->Nat):headL f≠Sh.noughts:=by
 intro e
 obtain ⟨z,hz⟩:=headL_formT f 0 (by decide)
 rw [hz] at e
 have:=congrArg (fun l:List Nat=>l.getD 0 0) e
 simp [preK,signL,Sh.noughts] at this
theorem okD_headT {a b:Nat} (ha:a<1024) (hb:b<15) (l:List Nat) (hl:Small l):okD (headL (numF a b (Nums.sum 0 l))) l 128=true/\numAt (headL (numF a b (Nums.sum 0 l))) 0=a/\numAt (headL (numF a b (Nums.sum 0 l))) 1=b/\numAt (headL (numF a b (Nums.sum 0 l))) 2=Nums.sum 0 l:=by
 have h0:numAt (headL (numF a b (Nums.sum 0 l))) 0=a:=numAt_headT (numF a b (Nums.sum 0 l)) 0 (by decide) (show a<_ by omega)
 have h1:numAt (headL (numF a b (Nums.sum 0 l))) 1=b:=numAt_headT (numF a b (Nums.sum 0 l)) 1 (by decide) (show b<_ by omega)
 have h2:numAt (headL (numF a b (Nums.sum 0 l))) 2=Nums.sum 0 l:=numAt_headT (numF a b (Nums.sum 0 l)) 2 (by decide) (Nums.sum_lt hl (by decide))
 refine ⟨?_,h0,h1,h2⟩
 unfold okD headOf
 rw [h0,h1,decide_eq_true rfl,Bool.and_true]
 exact (mayB_iff (by omega) (by omega)).2 ⟨rfl,by omega,by omega⟩
structure Gr (M:Nat) (g' g:Gh):Prop where
 lack:g'.lack=g.lack
 sure:g'.sure=g.sure
 each:∀st,(g'.dat st=g.dat st/\g'.op st=g.op st)\/∃dm old,g.op st=some (dm,old)/\g'.dat st dm=old/\g'.op st=some (dm,g.dat st dm)/\∀m,m≠dm->m≠pm M st->g'.dat st m=g.dat st m
section
variable {A:Ar} {S S':Sh.Sf} {o:Nat->Int} {g g':Gh} {D U:Set0} {d k st dm:Nat} {y z:Int} {b x old:Sh.Bs} {c:Nat->Option Sh.Bs}
theorem Pd.swap (hg:GhOk A g) (ha:ArOk A) (hop:g.op st=some (dm,old)) (h:Pd A g d c):Pd A (g.write A.M st dm old) d c:=by
 obtain ⟨hst,hdm,hne,hx⟩:=hg.op st dm old hop
 have hu:∀e j dm',g.sl e j=some (st,dm')->dm'=dm:=fun e j dm' hs=>((hg.sl e j st dm' hs).2.2.2.2 dm old hop).symm
 have hpt:=write_part hg ha hst hdm hne hx
 refine ⟨fun st' hst' m hm hn=>?_,fun k hk=>?_,h.part,h.said⟩
 ·by_cases e:st'=st
  ·subst e
   rcases h.blk st' hst' m hm hn with e1 | e1 | ⟨dm2,old2,e1,e2⟩
   ·by_cases c1:m=dm
    ·subst c1
     exact .inr (.inr ⟨m,g.dat st' m,write_op _ _ _ _,.inl ⟨rfl,e1⟩⟩)
    ·by_cases c2:m=pm A.M st'
     ·refine .inr (.inr ⟨dm,g.dat st' dm,write_op _ _ _ _,.inr ⟨c2,?_⟩⟩)
      rw [hpt,part_old hg ha hst' hdm,<- c2]
      exact e1
     ·exact .inl (by rw [write_other c1 c2];exact e1)
   ·exact .inr (.inl e1)
   ·rw [hop] at e1
    injection e1 with e1
    injection e1 with h1 h2
    subst h1 h2
    rcases e2 with ⟨e3,e4⟩ | ⟨e3,e4⟩
    ·exact .inl (by rw [e3,write_dm];exact e4)
    ·exact .inl (by rw [e3,write_pm hne];exact e4)
  ·obtain ⟨w1,w2⟩:=write_st (g:=g) (M:=A.M) (dm:=dm) e old
   rcases h.blk st' hst' m hm hn with e1 | e1 | ⟨dm',old',e1,e2⟩
   ·exact .inl (by rw [w1];exact e1)
   ·exact .inr (.inl e1)
   ·refine .inr (.inr ⟨dm',old',by rw [w2];exact e1,?_⟩)
    unfold partG
    rw [w1]
    exact e2
 ·rcases h.slot k hk with e1 | ⟨s1,s2,e1,e2⟩
  ·exact .inl e1
  ·refine .inr ⟨s1,s2,e1,?_⟩
   have ep:partG (g.write A.M st dm old) A.M s1 s2=partG g A.M s1 s2:=by
    by_cases c:s1=st
    ·subst c
     rw [hu _ _ _ e1]
     exact hpt
    ·unfold partG
     rw [(write_st c old).1]
   unfold recH
   rw [ep]
   exact e2
theorem Ci.swap (h:Ci A S o g) (hop:g.op st=some (dm,old)):Ci A S o (g.write A.M st dm old):=by
 obtain ⟨hst,hdm,hne,hx⟩:=h.ok.op st dm old hop
 have hu:∀e j dm',g.sl e j=some (st,dm')->dm'=dm:=fun e j dm' hs=>((h.ok.sl e j st dm' hs).2.2.2.2 dm old hop).symm
 refine ⟨h.ar,h.ok.write h.ar hst hdm hne hx hu,fun d hd ha=>(h.disk d hd ha).more fun c hc=>hc.swap h.ok h.ar hop,h.dead,fun st' dm' old' he h1 h2=>?_,h.len,h.fit,h.sec⟩
 by_cases c:st'=st
 ·subst c
  rw [write_op] at he
  injection he with he
  injection he with e1 e2
  subst e1
  exact h.rc st' dm old hop h1 h2
 ·rw [(write_st c old).2] at he
  exact h.rc st' dm' old' he h1 h2
def Told (A:Ar) (S:Sh.Sf) (g:Gh) (st:Nat):Prop :=
 ∀m,m<A.M->Dead S (A.num st m)=false->(m≠pm A.M st\/g.op st=none\/∀dm old,g.op st=some (dm,old)->Dead S (A.num st dm)=true)->vo S (A.num st m) (A.at st)=some (g.dat st m)
theorem Gr.refl (M:Nat) (g:Gh):Gr M g g:=⟨rfl,rfl,fun _=>.inl ⟨rfl,rfl⟩⟩
theorem Ci.tell (h:Ci A S o g) (hl:Ld A S g) (hon:S.off=false) (hst:st<A.St) :
  ∃g',Ci A S o g'/\Told A S g' st/\g'.lack=g.lack/\g'.sl=g.sl/\g'.sure=g.sure/\(∀st',st'≠st->g'.dat st'=g.dat st'/\g'.op st'=g.op st') /\
   ((g'.dat st=g.dat st/\g'.op st=g.op st)\/∃dm old,g.op st=some (dm,old)/\g'.dat st dm=old/\g'.op st=some (dm,g.dat st dm)/\∀m,m≠dm->m≠pm A.M st->g'.dat st m=g.dat st m):=by
 have hb:=fun m (hm:m<A.M) (ha:Dead S (A.num st m)=false)=>((h.disk _ (h.ar.num st m hm) ha).now hon).blk st hst m hm rfl
 have hb2:∀m,m<A.M->Dead S (A.num st m)=false->vo S (A.num st m) (A.at st)=some (g.dat st m)\/∃dm old,g.op st=some (dm,old)/\((m=dm/\vo S (A.num st m) (A.at st)=some old)\/(m=pm A.M st/\vo S (A.num st m) (A.at st)=some (xorL (partG g A.M st dm) old))):=fun m hm ha=>by
  rcases hb m hm ha with e | ⟨e,_⟩ | e
  ·exact .inl e
  ·rw [hl st m hst hm e] at ha;cases ha
  ·exact .inr e
 cases hop:g.op st with
 | none =>
  refine ⟨g,h,fun m hm ha _=>(hb2 m hm ha).elim id fun ⟨_,_,e,_⟩=>by (rw [hop] at e;cases e),rfl,rfl,rfl,fun _ _=>⟨rfl,rfl⟩,.inl ⟨rfl,hop⟩⟩
 | some q =>
  obtain ⟨dm,old⟩:=q
  obtain ⟨_,hdm,hne,hx⟩:=h.ok.op st dm old hop
  have hb3:∀m,m<A.M->Dead S (A.num st m)=false->vo S (A.num st m) (A.at st)=some (g.dat st m)\/(m=dm/\vo S (A.num st m) (A.at st)=some old)\/(m=pm A.M st/\vo S (A.num st m) (A.at st)=some (xorL (partG g A.M st dm) old)):=fun m hm ha=>by
   rcases hb2 m hm ha with e | ⟨dm2,old2,e1,e2⟩
   ·exact .inl e
   ·rw [hop] at e1
    injection e1 with e1
    injection e1 with h1 h2
    subst h1 h2
    exact .inr e2
  -- what stands there tells: the data,or,if that is lacking,the parity
  by_cases hsw:(Dead S (A.num st dm)=false/\vo S (A.num st dm) (A.at st)≠some (g.dat st dm))\/(Dead S (A.num st dm)=true/\vo S (A.num st (pm A.M st)) (A.at st)≠some (g.dat st (pm A.M st)))
  ·refine ⟨g.write A.M st dm old,h.swap hop,fun m hm ha hc=>?_,rfl,rfl,rfl,fun st' hs=>⟨(write_st hs old).1,(write_st hs old).2⟩,.inr ⟨dm,old,rfl,write_dm _ _ _ _,write_op _ _ _ _,fun m h1 h2=>write_other h1 h2 old⟩⟩
   rw [write_op] at hc
   by_cases c1:m=dm
   ·subst c1
    rw [write_dm]
    rcases hsw with ⟨_,e2⟩ | ⟨e1,_⟩
    ·rcases hb3 m hm ha with e | ⟨_,e⟩ | ⟨e,_⟩
     ·exact absurd e e2
     ·exact e
     ·exact absurd e hne
    ·rw [ha] at e1;cases e1
   ·by_cases c2:m=pm A.M st
    ·subst c2
     rw [write_pm hne]
     rcases hsw with ⟨e1,_⟩ | ⟨_,e2⟩
     ·rcases hc with hc | hc | hc
      ·exact absurd rfl hc
      ·cases hc
      ·have:=hc dm _ rfl
       rw [e1] at this;cases this
     ·rcases hb3 _ hm ha with e | ⟨e,_⟩ | ⟨_,e⟩
      ·exact absurd e e2
      ·exact absurd e.symm hne
      ·exact e
    ·rw [write_other c1 c2]
     rcases hb3 m hm ha with e | ⟨e,_⟩ | ⟨e,_⟩
     ·exact e
     ·exact absurd e c1
     ·exact absurd e c2
  ·refine ⟨g,h,fun m hm ha hc=>?_,rfl,rfl,rfl,fun _ _=>⟨rfl,rfl⟩,.inl ⟨rfl,hop⟩⟩
   rcases hb3 m hm ha with e | ⟨e,e2⟩ | ⟨e,e2⟩
   ·exact e
   ·subst e
    by_cases c1:vo S (A.num st m) (A.at st)=some (g.dat st m)
    ·exact c1
    ·exact absurd (.inl ⟨ha,c1⟩) hsw
   ·subst e
    rcases hc with hc | hc | hc
    ·exact absurd rfl hc
    ·rw [hop] at hc;cases hc
    ·by_cases c1:vo S (A.num st (pm A.M st)) (A.at st)=some (g.dat st (pm A.M st))
     ·exact c1
     ·exact absurd (.inr ⟨hc dm old hop,c1⟩) hsw
theorem Told.of_same {S:Sh.Sf} (h:Told A S g st) (h1:g'.dat st=g.dat st) (h2:g'.op st=g.op st):Told A S g' st:=by
 unfold Told
 rw [h1,h2]
 exact h
theorem Ci.tellAll (h:Ci A S o g) (hl:Ld A S g) (hon:S.off=false):∀j,j<=A.St->∃g',Ci A S o g'/\(∀st,st<j->Told A S g' st)/\g'.sl=g.sl/\Gr A.M g' g/\(∀st,j<=st->g'.dat st=g.dat st/\g'.op st=g.op st)
 | 0,_=>⟨g,h,fun _ e=>absurd e (Nat.not_lt_zero _),rfl,Gr.refl _ _,fun _ _=>⟨rfl,rfl⟩⟩
 | j+1,hj=>by
  obtain ⟨g1,h1,h2,h3,h4,h5⟩:=h.tellAll hl hon j (by omega)
  obtain ⟨g2,k1,k2,k3,k4,k5,k6,k7⟩:=h1.tell (fun st m a b e=>hl st m a b (by rw [h4.lack] at e;exact e)) hon (st:=j) (by omega)
  obtain ⟨w1,w2⟩:=h5 j (Nat.le_refl _)
  refine ⟨g2,k1,fun st hst=>?_,k4.trans h3,⟨k3.trans h4.lack,k5.trans h4.sure,fun st=>?_⟩,fun st hst=>?_⟩
  ·by_cases e:st=j
   ·rw [e];exact k2
   ·exact (h2 st (by omega)).of_same (k6 st e).1 (k6 st e).2
  ·by_cases e:st=j
   ·subst e
    rw [w1,w2] at k7
    exact k7
   ·rw [(k6 st e).1,(k6 st e).2]
    exact h4.each st
  ·rw [(k6 st (by omega)).1,(k6 st (by omega)).2]
   exact h5 st (by omega)
/-! ### what is no record is none -/
def Gh.strip (g:Gh) (S:Sh.Sf):Gh:={ g with sl:=fun d k=>if Dead S d=false/\vo S d (2+2*k)≠some Sh.noughts then g.sl d k else none }
theorem strip_sl {d k:Nat} {q:Nat × Nat} (h:(g.strip S).sl d k=some q):g.sl d k=some q/\Dead S d=false/\vo S d (2+2*k)≠some Sh.noughts:=by
 unfold Gh.strip at h
 simp only at h
 by_cases e:Dead S d=false/\vo S d (2+2*k)≠some Sh.noughts
 ·rw [if_pos e] at h
  exact ⟨h,e⟩
 ·rw [if_neg e] at h;cases h
theorem strip_yes {d k:Nat} (h1:Dead S d=false) (h2:vo S d (2+2*k)≠some Sh.noughts):(g.strip S).sl d k=g.sl d k:=if_pos ⟨h1,h2⟩
theorem recH_ne (g:Gh) (M st dm:Nat):recH g M st dm≠Sh.noughts:=headL_neT _
theorem Ci.strip (h:Ci A S o g) (hon:S.off=false) (hq:∀d,d<A.n->Dead S d=false->Jp2 S d (o d) (fun c=>c=vo S d)):Ci A S o (g.strip S):=by
 refine ⟨h.ar,⟨h.ok.sum,h.ok.sec,h.ok.op,fun d k st dm e=>h.ok.sl d k st dm (strip_sl e).1,h.ok.lack⟩,fun d hd ha=>(hq d hd ha).more fun c hc=>?_,h.dead,fun st dm old he h1 h2=>?_,h.len,h.fit,h.sec⟩
 ·rw [hc]
  have hp:=(h.disk d hd ha).now hon
  refine ⟨hp.blk,fun k hk=>?_,hp.part,hp.said⟩
  by_cases e:vo S d (2+2*k)=some Sh.noughts
  ·exact .inl ⟨if_neg (fun e2=>e2.2 e),e⟩
  ·rcases hp.slot k hk with e1 | ⟨s1,s2,e1,e2⟩
   ·exact absurd e1.2 e
   ·exact .inr ⟨s1,s2,(strip_yes ha e).trans e1,e2⟩
 ·obtain ⟨k,hk,e1,e2⟩:=h.rc st dm old he h1 h2
  refine ⟨k,hk,(strip_yes h2 ?_).trans e1,e2⟩
  have hp:=(h.disk _ (h.ar.num st _ (pm_lt h.ar st)) h2).now hon
  rcases hp.slot k hk with e3 | ⟨s1,s2,e3,e4⟩
  ·rw [e3.1] at e1;cases e1
  ·rcases e4 with ⟨e4,_⟩ | ⟨e4,_⟩
   ·rw [e2] at e4;cases e4
   ·rw [e4]
    intro e5
    injection e5 with e5
    exact recH_ne _ _ _ _ e5
end
end Go.Proofs.YtepoepmndckmaaaGreatDoor.U
