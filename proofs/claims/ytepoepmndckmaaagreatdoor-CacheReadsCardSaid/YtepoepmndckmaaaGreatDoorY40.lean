/-
  What the statement's proof rests on, part 40.
  Conditions: each theorem's own.
-/
import Derived.Test.YtepoepmndckmaaaGreatDoorY39
import Derived.Test.YtepoepmndckmaaaGreatDoorY19
import Derived.Test.YtepoepmndckmaaaGreatDoorYtk
open Go.Lib (hid)
open Go.Proofs.YtepoepmndckmaaaGreatDoor.S renaming Sup → SuP
namespace Go.Proofs.YtepoepmndckmaaaGreatDoor.U
open Go.RowKit Go.Maps
theorem alike_any (x0 x1 x2 x3 x4 x5 x6 x7 y0 y1 y2 y3 y4 y5 y6 y7:Int) (w:World) :
  Calls Tryz.prog 91 #[.agg #[.int .i64 x0,.int .i64 x1,.int .i64 x2,.int .i64 x3,.int .i64 x4,.int .i64 x5,.int .i64 x6,.int .i64 x7],.agg #[.int .i64 y0,.int .i64 y1,.int .i64 y2,.int .i64 y3,.int .i64 y4,.int .i64 y5,.int .i64 y6,.int .i64 y7]] w
   fun e w'=>e=.returned (.bool (x0 == y0 && (x1 == y1 && (x3 == y3 && (x4 == y4 && (x5 == y5 && (x6 == y6 && x7 == y7)))))))/\Below w.heap.size w w':=by
 go_enter Tryz.func91,Tryz.ntmps91
 go_wp2_with fail
 all_goals
  go_ret
  refine ⟨by simp_all,((Below.refl _ _).alloc (Nat.le_refl _) _).alloc (by simp) _⟩
def SayB (S:Sh.Sf) (d b:Nat) (x:SuP):Prop:=x.disk=(d:Int)/\x.gen%2=(b:Int)/\Fit S.disks.length x/\2+2*x.logs.toNat+x.str.toNat<=blk S.sectors
instance (S:Sh.Sf) (d b:Nat) (x:SuP):Decidable (SayB S d b x):=by unfold SayB Fit;exact inferInstance
def sayO (S:Sh.Sf) (d b:Nat):Option SuP :=
 if (rdY S d b=0/\Go.Proofs.YtepoepmndckmaaaGreatDoor.S.okD (V S d (dataOf b))=true)/\SayB S d b (Go.Proofs.YtepoepmndckmaaaGreatDoor.S.supOf (V S d (dataOf b))) then some (Go.Proofs.YtepoepmndckmaaaGreatDoor.S.supOf (V S d (dataOf b))) else none
theorem sayB_same {S T:Sh.Sf} (h1:T.disks.length=S.disks.length) (h2:T.sectors=S.sectors) (d b:Nat) (x:SuP):SayB T d b x=SayB S d b x:=by unfold SayB;rw [h1,h2]
theorem sayO_same {S T:Sh.Sf} (h:Same S T) (d b:Nat):sayO T d b=sayO S d b:=by
 unfold sayO
 simp only [h.rdY,h.V,sayB_same h.len h.sectors]
def SayIs (n nb d b:Nat) (x:SuP):Prop:=x.right=true/\x.disk=(d:Int)/\x.gen%2=(b:Int)/\Fit n x/\2+2*x.logs.toNat+x.str.toNat<=nb
def VoS (B:Nat) (W w w':World) (v p t n mo mu:Nat) (s:SuP) (base:Int) (a:Nat->Nat) (o:Nat->Int) (g:Nat->Option Addr) (S:Sh.Sf) (F:Nat->Prop):Prop :=
 ∃S1,Same S S1/\Vo B W w' v p t n mo mu s base a o g S1 F/\Sh.Only F w w'
section
variable {B:Nat} {W w w':World} {v p t n mo mu:Nat} {s:SuP} {base:Int} {a:Nat->Nat} {o:Nat->Int} {g:Nat->Option Addr} {S S':Sh.Sf} {F:Nat->Prop}
theorem Vo.stay (h:Vo B W w v p t n mo mu s base a o g S F) (hs:Sh.Shelf w' p S' F) (ho:Sh.Only F w w'):Vo B W w' v p t n mo mu s base a o g S' F:=by
 have hk:∀b,b<w.heap.size->¬AllB F a n b->w'.heap[b]?=w.heap[b]?:=fun b hb hx=>ho.block b hb fun e=>hx (.inl e)
 have hv:=h.vol.kept (hk _ h.vol.vlt fun e=>(h.apart _ e).1 rfl) (hk _ h.vol.tlt fun e=>(h.apart _ e).2.1 rfl)
 exact ⟨h.ds.stays hs ho,hv,h.apart,h.low,⟨Nat.lt_of_lt_of_le h.lt.1 ho.size,Nat.lt_of_lt_of_le h.lt.2 ho.size⟩⟩
theorem fits_says (h:Vo B W w v p t n mo mu s base a o g S F) (hn:S.disks.length=n) (d b:Nat) (x:SuP) (hx:SayIs n (blk S.sectors) d b x) :
  Calls Tryz.prog 98 #[.pointer (some ⟨v,0,none⟩),x.val] w fun e w'=>e=.returned (.bool true)/\Below w.heap.size w w':=by
 obtain ⟨h1,_,_,h4,h5⟩:=hx
 obtain ⟨_,_,_,r4,r5,_⟩:=Go.Proofs.YtepoepmndckmaaaGreatDoor.S.right_parts h1
 exact fits_yes h hn x x.str.toNat x.logs.toNat (by omega) (by omega) (by omega) (by omega) (by omega) (by omega) h1 h4 h5
def SayQ (B:Nat) (W w:World) (v p t n mo mu:Nat) (s:SuP) (base:Int) (a:Nat->Nat) (o:Nat->Int) (g:Nat->Option Addr) (S:Sh.Sf) (F:Nat->Prop) (q:Option SuP) (e:Ending) (w':World):Prop :=
 ∃(x:SuP) (b:Bool),e=.returned (.tuple #[x.val,.bool b])/\(b=true->q=some x)/\(b=false->q=none)/\VoS B W w w' v p t n mo mu s base a o g S F
theorem put8_only (w:World) (r:Nat) (a0 a1 a2 a3 a4 a5 a6 a7:Value):Sh.Only (fun b=>b=r) w (Go.Proofs.YtepoepmndckmaaaGreatDoor.S.put8 w r a0 a1 a2 a3 a4 a5 a6 a7):=by
 unfold Go.Proofs.YtepoepmndckmaaaGreatDoor.S.put8
 refine Sh.Only.setCell (F:=fun b=>b=r) ?_ (p:=⟨r,7,none⟩) (.inl rfl) a7
 refine Sh.Only.setCell (F:=fun b=>b=r) ?_ (p:=⟨r,6,none⟩) (.inl rfl) a6
 refine Sh.Only.setCell (F:=fun b=>b=r) ?_ (p:=⟨r,5,none⟩) (.inl rfl) a5
 refine Sh.Only.setCell (F:=fun b=>b=r) ?_ (p:=⟨r,4,none⟩) (.inl rfl) a4
 refine Sh.Only.setCell (F:=fun b=>b=r) ?_ (p:=⟨r,3,none⟩) (.inl rfl) a3
 refine Sh.Only.setCell (F:=fun b=>b=r) ?_ (p:=⟨r,2,none⟩) (.inl rfl) a2
 refine Sh.Only.setCell (F:=fun b=>b=r) ?_ (p:=⟨r,1,none⟩) (.inl rfl) a1
 refine Sh.Only.setCell (F:=fun b=>b=r) ?_ (p:=⟨r,0,none⟩) (.inl rfl) a0
 exact Sh.Only.refl _ w
theorem sayO_no {S:Sh.Sf} {d b:Nat} (h:rdY S d b≠0):sayO S d b=none:=by unfold sayO;rw [if_neg (fun e=>h e.1.1)]
theorem sayO_bad {S:Sh.Sf} {d b:Nat} (h:Go.Proofs.YtepoepmndckmaaaGreatDoor.S.okD (V S d (dataOf b))=false):sayO S d b=none:=by unfold sayO;rw [if_neg (fun e=>by rw [h] at e;cases e.1.2)]
theorem sayO_not {S:Sh.Sf} {d b:Nat} (h:¬SayB S d b (Go.Proofs.YtepoepmndckmaaaGreatDoor.S.supOf (V S d (dataOf b)))):sayO S d b=none:=by unfold sayO;rw [if_neg (fun e=>h e.2)]
theorem sayO_yes {S:Sh.Sf} {d b:Nat} (h0:rdY S d b=0) (h:Go.Proofs.YtepoepmndckmaaaGreatDoor.S.okD (V S d (dataOf b))=true) (h2:SayB S d b (Go.Proofs.YtepoepmndckmaaaGreatDoor.S.supOf (V S d (dataOf b)))):sayO S d b=some (Go.Proofs.YtepoepmndckmaaaGreatDoor.S.supOf (V S d (dataOf b))):=by unfold sayO;rw [if_pos ⟨⟨h0,h⟩,h2⟩]
theorem okD_right {l:List Nat} (h:Go.Proofs.YtepoepmndckmaaaGreatDoor.S.okD l=true):(Go.Proofs.YtepoepmndckmaaaGreatDoor.S.supOf l).right=true:=by
 unfold Go.Proofs.YtepoepmndckmaaaGreatDoor.S.okD at h
 rw [Bool.and_eq_true] at h
 exact h.1
theorem sayO_is {S:Sh.Sf} {n d b:Nat} {x:SuP} (hn:S.disks.length=n) (h:sayO S d b=some x):SayIs n (blk S.sectors) d b x:=by
 unfold sayO at h
 split at h
 ·rename_i hc
  injection h with h
  subst h
  obtain ⟨⟨_,h1⟩,h2,h3,h4,h5⟩:=hc
  exact ⟨okD_right h1,h2,h3,hn▸h4,h5⟩
 ·cases h
set_option maxRecDepth 20000 in
set_option maxHeartbeats 1600000 in
theorem saying_any (h:Vo B W w v p t n mo mu s base a o g S F) (hT:Tabs W) (hTB:max 0 1+1<=B) (hWi:Go.Proofs.YtepoepmndckmaaaGreatDoor.S.Wid W) (hWB:2+1<=B)
  (hn:S.disks.length=n) (d b:Nat) (hd:d<n) (hb:b<2) (hbb:2<=blk S.sectors) (_:∀x,sayO S d b=some x->SayIs n (blk S.sectors) d b x) :
  Calls Tryz.prog 89 #[.pointer (some ⟨v,0,none⟩),.int .i64 d,.int .i64 b] w (SayQ B W w v p t n mo mu s base a o g S F (sayO S d b)):=by
 have hb0:Below w.heap.size w (w.alloc (.cells #[.int .i64 0,.int .i64 0,.int .i64 0,.int .i64 0,.int .i64 0,.int .i64 0,.int .i64 0,.int .i64 0] 81)):=(Below.refl _ _).alloc (Nat.le_refl _) _
 have h0:=heap_alloc_new w (.cells #[.int .i64 0,.int .i64 0,.int .i64 0,.int .i64 0,.int .i64 0,.int .i64 0,.int .i64 0,.int .i64 0] 81)
 have V0:=h.grown hb0
 have c10:=V0.vol.c10
 have d0:=V0.vol.dev hd
 have HRD:=hid (dread (V0.ds.dv hd) hT hTB b (by omega) (by rw [hn];exact hd))
 have hsec:Sh.Sec (V S d (dataOf b)):=V_sec h.ds.on.shelf (by rw [hn];exact hd) (sum_of_lt (show b<blk S.sectors by omega)).1
 have HSE:=hid hsec
 have HH:=hid (And.intro h hn)
 have H0:=hid h0
 have HB0:=hid hb0
 have h17:n<=17:=by
  obtain ⟨D0,gs,q⟩:=h.ds.on.shelf
  have:=q.most
  omega
 have HNF:=hid (fun (b:Nat) (hF:F b)=>h.ds.lt b (.inl hF))
 have HS1:=hid (fun e=>sayO_no (S:=S) (d:=d) (b:=b) e)
 have HS2:=hid (fun e=>sayO_bad (S:=S) (d:=d) (b:=b) e)
 have HS3:Hid (∀x,Go.Proofs.YtepoepmndckmaaaGreatDoor.S.supOf (V S d (dataOf b))=x->(rdY S d b=0->Go.Proofs.YtepoepmndckmaaaGreatDoor.S.okD (V S d (dataOf b))=true->SayB S d b x->sayO S d b=some x)/\(¬SayB S d b x->sayO S d b=none)):=hid fun x e=>by
  subst e
  exact ⟨fun e0 e1 e2=>sayO_yes e0 e1 e2,fun e=>sayO_not e⟩
 generalize sayO S d b=so at *
 clear h h0 hb0 V0 hn hsec
 generalize rdY S d b=y1 at *
 go_enter Tryz.func89,Tryz.ntmps89
 go_wp2_with fail
 refine HRD.out.mono ?_
 rintro e w2 ⟨⟨A2,n2,c2,rfl,hX2⟩,D2,O2⟩
 have hz2:w.heap.size<w2.heap.size:=Nat.lt_of_lt_of_le (lt_of_block H0.out) O2.size
 have hq2:=(O2.block w.heap.size (lt_of_block H0.out) (fun e=>Nat.lt_irrefl _ (HNF.out _ e))).trans H0.out
 have hO2:Sh.Only F w w2:=(only_below F HB0.out).trans O2 fun b e=>.inl e
 have hSM:Same S (Looked S d):=(Same.refl S).looked d
 -- what stands at the end,whatever is stored into the result
 have fin:∀(w5:World) (a0 a1 a2 a3 a4 a5 a6 a7:Value),Below w2.heap.size w2 w5->VoS B W w (Go.Proofs.YtepoepmndckmaaaGreatDoor.S.put8 w5 w.heap.size a0 a1 a2 a3 a4 a5 a6 a7) v p t n mo mu s base a o g S F:=fun w5 a0 a1 a2 a3 a4 a5 a6 a7 hb5=>by
  have hO5:Sh.Only F w w5:=hO2.trans (only_below F hb5) fun b e=>.inl e
  have hp8:=Go.Proofs.YtepoepmndckmaaaGreatDoor.S.put8_below (B:=w.heap.size) (Below.refl w.heap.size w5) (Nat.le_refl _) a0 a1 a2 a3 a4 a5 a6 a7
  have hoq:Sh.Only (fun b=>b=w.heap.size) w5 (Go.Proofs.YtepoepmndckmaaaGreatDoor.S.put8 w5 w.heap.size a0 a1 a2 a3 a4 a5 a6 a7):=put8_only w5 w.heap.size a0 a1 a2 a3 a4 a5 a6 a7
  have hO8:Sh.Only F w (Go.Proofs.YtepoepmndckmaaaGreatDoor.S.put8 w5 w.heap.size a0 a1 a2 a3 a4 a5 a6 a7):=hO5.trans hoq fun b e=>.inr (by rw [e];exact Nat.le_refl _)
  refine ⟨_,hSM,HH.out.1.stay ?_ hO8,hO8⟩
  exact (D2.grown hb5).on.shelf.only hoq fun b hF e=>by
   have:=HNF.out b hF
   omega
 have FIN:=hid fin
 have HZ2:=hid hz2
 have HQ2:=hid hq2
 have HD2:=hid D2
 have HTT:=hid (And.intro (hT.below hTB D2.on.bel) (hWi.below hWB D2.on.bel))
 have HO2:=hid hO2
 clear fin hz2 hq2 D2 O2 hO2 hSM c10 d0 HRD
 by_cases hy:y1=0
 rotate_left
 ·have hqn:(y1 == 0)=false:=by simpa using hy
  have hno:so=none:=HS1.out hy
  obtain ⟨k0,k1,k2,k3,k4,k5,k6,k7,f0,f1,f2,f3,f4,f5,f6,f7⟩:=Go.Proofs.YtepoepmndckmaaaGreatDoor.S.cells8_of HQ2.out
  have s0:=Go.Proofs.YtepoepmndckmaaaGreatDoor.S.store0 HQ2.out (.int .i64 0) (by rfl)
  have HNO:=hid hno
  clear hX2 hy hno
  go_wp2_with fail
  have hlv:=run_loadVar_row (P:=Tryz.prog) _ w.heap.size 81 81 _ (0,0) _ (Go.Proofs.YtepoepmndckmaaaGreatDoor.S.put8_row HQ2.out (.int .i64 0) (.int .i64 0) (.int .i64 0) (.int .i64 0) (.int .i64 0) (.int .i64 0) (.int .i64 0) (.int .i64 0)) Tryz.underlying81 rfl Go.Proofs.YtepoepmndckmaaaGreatDoor.S.info_sup
  refine bodyPost_ret (Go.Proofs.YtepoepmndckmaaaGreatDoor.S.results_cell2 (g:=w.heap.size) Tryz.results89 rfl hlv rfl) rfl ?_
  exact ⟨Go.Proofs.YtepoepmndckmaaaGreatDoor.S.sup0,false,rfl,fun e=>Bool.noConfusion e,fun _=>HNO.out,FIN.out w2 (.int .i64 0) (.int .i64 0) (.int .i64 0) (.int .i64 0) (.int .i64 0) (.int .i64 0) (.int .i64 0) (.int .i64 0) (Below.refl _ _)⟩
 ·subst hy
  have hX3:n2=128/\Sh.Bytes (w.alloc (.cells #[.int .i64 0,.int .i64 0,.int .i64 0,.int .i64 0,.int .i64 0,.int .i64 0,.int .i64 0,.int .i64 0] 81)) w2 A2 (V S d (dataOf b)):=by
   rcases hX2 with ⟨_,h1,h2⟩ | ⟨h1,_⟩
   ·exact ⟨h1,h2⟩
   ·exact absurd rfl h1
  clear hX2
  obtain ⟨rfl,hX3⟩:=hX3
  have HDE:=hid (Go.Proofs.YtepoepmndckmaaaGreatDoor.S.decode_is A2 c2 (V S d (dataOf b)) HSE.out.2 w2 hX3.1 HTT.out.1 HTT.out.2)
  clear hX3
  generalize V S d (dataOf b)=l at *
  unfold Go.Proofs.YtepoepmndckmaaaGreatDoor.S.toldOf Go.Proofs.YtepoepmndckmaaaGreatDoor.S.codeD at HDE
  cases hok:Go.Proofs.YtepoepmndckmaaaGreatDoor.S.okD l
  ·have HNO:=hid (HS2.out hok)
   simp only [hok,Bool.false_eq_true,if_false] at HDE
   clear hok HS1 HS2 HS3
   unfold Go.Proofs.YtepoepmndckmaaaGreatDoor.S.sup0 at HDE
   go_wp2_with fail
   refine HDE.out.mono ?_
   rintro e w3 ⟨rfl,hb3⟩
   have hb4:Below w3.heap.size w3 (w3.alloc (.cells #[.int .i64 0,.int .i64 0,.int .i64 0,.int .i64 0,.int .i64 0,.int .i64 0,.int .i64 0,.int .i64 0] 81)):=(Below.refl _ _).alloc (Nat.le_refl _) _
   have hz3:=Nat.lt_of_lt_of_le HZ2.out hb3.size
   have HQ4:=hid ((hb4.block w.heap.size hz3).trans ((hb3.block w.heap.size HZ2.out).trans HQ2.out))
   have HB4:=hid (hb3.trans (hb4.mono hb3.size))
   obtain ⟨k0,k1,k2,k3,k4,k5,k6,k7,f0,f1,f2,f3,f4,f5,f6,f7⟩:=Go.Proofs.YtepoepmndckmaaaGreatDoor.S.cells8_of HQ4.out
   have s0:=Go.Proofs.YtepoepmndckmaaaGreatDoor.S.store0 HQ4.out (.int .i64 0) (by rfl)
   clear hb3 hb4 hz3 HDE
   unfold Go.Proofs.YtepoepmndckmaaaGreatDoor.S.Sup.val
   simp only [Go.Proofs.YtepoepmndckmaaaGreatDoor.S.Sup.cells]
   go_wp2_with fail
   have hlv:=run_loadVar_row (P:=Tryz.prog) _ w.heap.size 81 81 _ (0,0) _ (Go.Proofs.YtepoepmndckmaaaGreatDoor.S.put8_row HQ4.out (.int .i64 0) (.int .i64 0) (.int .i64 0) (.int .i64 0) (.int .i64 0) (.int .i64 0) (.int .i64 0) (.int .i64 0)) Tryz.underlying81 rfl Go.Proofs.YtepoepmndckmaaaGreatDoor.S.info_sup
   refine bodyPost_ret (Go.Proofs.YtepoepmndckmaaaGreatDoor.S.results_cell2 (g:=w.heap.size) Tryz.results89 rfl hlv rfl) rfl ?_
   exact ⟨Go.Proofs.YtepoepmndckmaaaGreatDoor.S.sup0,false,rfl,fun e=>Bool.noConfusion e,fun _=>HNO.out,FIN.out _ (.int .i64 0) (.int .i64 0) (.int .i64 0) (.int .i64 0) (.int .i64 0) (.int .i64 0) (.int .i64 0) (.int .i64 0) HB4.out⟩
  ·simp only [hok,if_true] at HDE
   have hr:=okD_right hok
   have HS4:=hid (fun x (e:Go.Proofs.YtepoepmndckmaaaGreatDoor.S.supOf l=x)=>((HS3.out x e).1 rfl hok))
   have HS5:=hid (fun x (e:Go.Proofs.YtepoepmndckmaaaGreatDoor.S.supOf l=x)=>(HS3.out x e).2)
   clear hok HS1 HS2 HS3
   generalize hxx:Go.Proofs.YtepoepmndckmaaaGreatDoor.S.supOf l=x at *
   have HSY:=hid (HS4.out x rfl)
   have HSN:=hid (HS5.out x rfl)
   clear hxx HS4 HS5
   obtain ⟨x0,x1,x2,x3,x4,x5,x6,x7⟩:=x
   have hg:=(Go.Proofs.YtepoepmndckmaaaGreatDoor.S.right_parts hr).1
   simp only at hg
   have HSL:=hid (fun w=>Go.Proofs.YtepoepmndckmaaaGreatDoor.S.slot_any x0 w (by omega) (by omega))
   by_cases hdk:x2=(d:Int)
   rotate_left
   ·have HNO:=hid (HSN.out fun e=>hdk e.1)
    have hq:=hid (And.intro (show ((x2:Int) == (d:Int))=false from beq_eq_false_iff_ne.2 hdk) (eq_false hdk))
    unfold Go.Proofs.YtepoepmndckmaaaGreatDoor.S.Decoded Go.Proofs.YtepoepmndckmaaaGreatDoor.S.Sup.val at HDE
    simp only [Go.Proofs.YtepoepmndckmaaaGreatDoor.S.Sup.cells] at HDE
    clear hr hg hdk HSY HSN HSL
    go_wp2_with fail
    refine HDE.out.mono ?_
    rintro e w3 ⟨rfl,hb3⟩
    have hb4:Below w3.heap.size w3 (w3.alloc (.cells #[.int .i64 x0,.int .i64 x1,.int .i64 x2,.int .i64 x3,.int .i64 x4,.int .i64 x5,.int .i64 x6,.int .i64 x7] 81)):=(Below.refl _ _).alloc (Nat.le_refl _) _
    have h4:=heap_alloc_new w3 (.cells #[.int .i64 x0,.int .i64 x1,.int .i64 x2,.int .i64 x3,.int .i64 x4,.int .i64 x5,.int .i64 x6,.int .i64 x7] 81)
    have hz3:=Nat.lt_of_lt_of_le HZ2.out hb3.size
    have hB4:=hb3.trans (hb4.mono hb3.size)
    have HQ4:=hid ((hb4.block w.heap.size hz3).trans ((hb3.block w.heap.size HZ2.out).trans HQ2.out))
    obtain ⟨hqq,hqp⟩:=hq.out
    obtain ⟨k0,k1,k2,k3,k4,k5,k6,k7,_⟩:=Go.Proofs.YtepoepmndckmaaaGreatDoor.S.cells8_of h4
    obtain ⟨m0,m1,m2,m3,m4,m5,m6,m7,f0,f1,f2,f3,f4,f5,f6,f7⟩:=Go.Proofs.YtepoepmndckmaaaGreatDoor.S.cells8_of HQ4.out
    have s0:=Go.Proofs.YtepoepmndckmaaaGreatDoor.S.store0 HQ4.out (.int .i64 0) (by rfl)
    have HB4:=hid hB4
    clear hb3 hb4 hz3 hB4 HDE h4
    go_wp2_with fail
    have hlv:=run_loadVar_row (P:=Tryz.prog) _ w.heap.size 81 81 _ (0,0) _ (Go.Proofs.YtepoepmndckmaaaGreatDoor.S.put8_row HQ4.out (.int .i64 0) (.int .i64 0) (.int .i64 0) (.int .i64 0) (.int .i64 0) (.int .i64 0) (.int .i64 0) (.int .i64 0)) Tryz.underlying81 rfl Go.Proofs.YtepoepmndckmaaaGreatDoor.S.info_sup
    refine bodyPost_ret (Go.Proofs.YtepoepmndckmaaaGreatDoor.S.results_cell2 (g:=w.heap.size) Tryz.results89 rfl hlv rfl) rfl ?_
    exact ⟨Go.Proofs.YtepoepmndckmaaaGreatDoor.S.sup0,false,rfl,fun e=>Bool.noConfusion e,fun _=>HNO.out,FIN.out _ (.int .i64 0) (.int .i64 0) (.int .i64 0) (.int .i64 0) (.int .i64 0) (.int .i64 0) (.int .i64 0) (.int .i64 0) HB4.out⟩
   ·by_cases hgb:x0%2=(b:Int)
    rotate_left
    ·have HNO:=hid (HSN.out fun e=>hgb e.2.1)
     have hq:=hid (And.intro (show ((x0%2:Int) == (b:Int))=false from beq_eq_false_iff_ne.2 hgb) (eq_false hgb))
     subst hdk
     unfold Go.Proofs.YtepoepmndckmaaaGreatDoor.S.Decoded Go.Proofs.YtepoepmndckmaaaGreatDoor.S.Sup.val at HDE
     simp only [Go.Proofs.YtepoepmndckmaaaGreatDoor.S.Sup.cells] at HDE
     clear hr hg hgb HSY HSN
     go_wp2_with fail
     refine HDE.out.mono ?_
     rintro e w3 ⟨rfl,hb3⟩
     have hb4:Below w3.heap.size w3 (w3.alloc (.cells #[.int .i64 x0,.int .i64 x1,.int .i64 (d:Int),.int .i64 x3,.int .i64 x4,.int .i64 x5,.int .i64 x6,.int .i64 x7] 81)):=(Below.refl _ _).alloc (Nat.le_refl _) _
     have h4:=heap_alloc_new w3 (.cells #[.int .i64 x0,.int .i64 x1,.int .i64 (d:Int),.int .i64 x3,.int .i64 x4,.int .i64 x5,.int .i64 x6,.int .i64 x7] 81)
     have hz3:=Nat.lt_of_lt_of_le HZ2.out hb3.size
     have hB4:=hb3.trans (hb4.mono hb3.size)
     have HQ4:=hid ((hb4.block w.heap.size hz3).trans ((hb3.block w.heap.size HZ2.out).trans HQ2.out))
     obtain ⟨hqq,hqp⟩:=hq.out
     obtain ⟨k0,k1,k2,k3,k4,k5,k6,k7,_⟩:=Go.Proofs.YtepoepmndckmaaaGreatDoor.S.cells8_of h4
     obtain ⟨m0,m1,m2,m3,m4,m5,m6,m7,f0,f1,f2,f3,f4,f5,f6,f7⟩:=Go.Proofs.YtepoepmndckmaaaGreatDoor.S.cells8_of HQ4.out
     have s0:=Go.Proofs.YtepoepmndckmaaaGreatDoor.S.store0 HQ4.out (.int .i64 0) (by rfl)
     have HB4:=hid hB4
     clear hb3 hb4 hz3 hB4 HDE h4
     generalize x0%2=xm at *
     go_wp2_with (go_at_call 90;refine (HSL.out _).mono ?_;rintro e w' ⟨rfl,rfl⟩)
     have hlv:=run_loadVar_row (P:=Tryz.prog) _ w.heap.size 81 81 _ (0,0) _ (Go.Proofs.YtepoepmndckmaaaGreatDoor.S.put8_row HQ4.out (.int .i64 0) (.int .i64 0) (.int .i64 0) (.int .i64 0) (.int .i64 0) (.int .i64 0) (.int .i64 0) (.int .i64 0)) Tryz.underlying81 rfl Go.Proofs.YtepoepmndckmaaaGreatDoor.S.info_sup
     refine bodyPost_ret (Go.Proofs.YtepoepmndckmaaaGreatDoor.S.results_cell2 (g:=w.heap.size) Tryz.results89 rfl hlv rfl) rfl ?_
     exact ⟨Go.Proofs.YtepoepmndckmaaaGreatDoor.S.sup0,false,rfl,fun e=>Bool.noConfusion e,fun _=>HNO.out,FIN.out _ (.int .i64 0) (.int .i64 0) (.int .i64 0) (.int .i64 0) (.int .i64 0) (.int .i64 0) (.int .i64 0) (.int .i64 0) HB4.out⟩
    ·subst hdk
     by_cases hfit:Fit n ⟨x0,x1,(d:Int),x3,x4,x5,x6,x7⟩/\2+2*x4.toNat+x3.toNat<=blk S.sectors
     rotate_left
     ·have HNO:=hid (HSN.out fun e=>hfit ⟨HH.out.2▸e.2.2.1,e.2.2.2⟩)
      rw [hgb] at HSL
      unfold Go.Proofs.YtepoepmndckmaaaGreatDoor.S.Decoded Go.Proofs.YtepoepmndckmaaaGreatDoor.S.Sup.val at HDE
      simp only [Go.Proofs.YtepoepmndckmaaaGreatDoor.S.Sup.cells] at HDE
      clear hg hgb HSY HSN
      go_wp2_with fail
      refine HDE.out.mono ?_
      rintro e w3 ⟨rfl,hb3⟩
      have hb4:Below w3.heap.size w3 (w3.alloc (.cells #[.int .i64 x0,.int .i64 x1,.int .i64 (d:Int),.int .i64 x3,.int .i64 x4,.int .i64 x5,.int .i64 x6,.int .i64 x7] 81)):=(Below.refl _ _).alloc (Nat.le_refl _) _
      have h4:=heap_alloc_new w3 (.cells #[.int .i64 x0,.int .i64 x1,.int .i64 (d:Int),.int .i64 x3,.int .i64 x4,.int .i64 x5,.int .i64 x6,.int .i64 x7] 81)
      have hz3:=Nat.lt_of_lt_of_le HZ2.out hb3.size
      have hB4:=hb3.trans (hb4.mono hb3.size)
      have HQ4:=hid ((hb4.block w.heap.size hz3).trans ((hb3.block w.heap.size HZ2.out).trans HQ2.out))
      have V4:=HH.out.1.stay ((HD2.out.grown hB4).on.shelf) (HO2.out.trans (only_below F hB4) fun b e=>.inl e)
      have HFI:=hid (fits_no V4 (by rw [looked_disks];exact HH.out.2) ⟨x0,x1,(d:Int),x3,x4,x5,x6,x7⟩ hr (by rw [looked_sectors];exact hfit))
      unfold Go.Proofs.YtepoepmndckmaaaGreatDoor.S.Sup.val at HFI
      simp only [Go.Proofs.YtepoepmndckmaaaGreatDoor.S.Sup.cells] at HFI
      obtain ⟨k0,k1,k2,k3,k4,k5,k6,k7,_⟩:=Go.Proofs.YtepoepmndckmaaaGreatDoor.S.cells8_of h4
      have HR4:=hid (And.intro h4 (And.intro hz3 hB4))
      clear hb3 hb4 hz3 hB4 HDE V4 h4 hr hfit
      go_wp2_with (go_at_call 90;refine (HSL.out _).mono ?_;rintro e w' ⟨rfl,rfl⟩)
      generalize hw4:w3.alloc (.cells #[.int .i64 x0,.int .i64 x1,.int .i64 (d:Int),.int .i64 x3,.int .i64 x4,.int .i64 x5,.int .i64 x6,.int .i64 x7] 81)=w4 at *
      generalize hq3:w3.heap.size=q3 at *
      refine HFI.out.mono ?_
      rintro e w5 ⟨rfl,hb5⟩
      have hz4:w.heap.size<w4.heap.size:=Nat.lt_of_lt_of_le HZ2.out HR4.out.2.2.size
      have HQ5:=hid ((hb5.block w.heap.size hz4).trans HQ4.out)
      have HB5:=hid (HR4.out.2.2.trans (hb5.mono HR4.out.2.2.size))
      clear k0 k1 k2 k3 k4 k5 k6 k7 hw4 hq3
      obtain ⟨k0,k1,k2,k3,k4,k5,k6,k7,f0,f1,f2,f3,f4,f5,f6,f7⟩:=Go.Proofs.YtepoepmndckmaaaGreatDoor.S.cells8_of HQ5.out
      have s0:=Go.Proofs.YtepoepmndckmaaaGreatDoor.S.store0 HQ5.out (.int .i64 0) (by rfl)
      clear hb5 HFI hz4
      go_wp2_with fail
      have hlv:=run_loadVar_row (P:=Tryz.prog) _ w.heap.size 81 81 _ (0,0) _ (Go.Proofs.YtepoepmndckmaaaGreatDoor.S.put8_row HQ5.out (.int .i64 0) (.int .i64 0) (.int .i64 0) (.int .i64 0) (.int .i64 0) (.int .i64 0) (.int .i64 0) (.int .i64 0)) Tryz.underlying81 rfl Go.Proofs.YtepoepmndckmaaaGreatDoor.S.info_sup
      refine bodyPost_ret (Go.Proofs.YtepoepmndckmaaaGreatDoor.S.results_cell2 (g:=w.heap.size) Tryz.results89 rfl hlv rfl) rfl ?_
      exact ⟨Go.Proofs.YtepoepmndckmaaaGreatDoor.S.sup0,false,rfl,fun e=>Bool.noConfusion e,fun _=>HNO.out,FIN.out _ (.int .i64 0) (.int .i64 0) (.int .i64 0) (.int .i64 0) (.int .i64 0) (.int .i64 0) (.int .i64 0) (.int .i64 0) HB5.out⟩
     ·have hso:=HSY.out ⟨rfl,hgb,HH.out.2▸hfit.1,hfit.2⟩
      have HSO:=hid hso
      rw [hgb] at HSL
      have HSI:=hid (show SayIs n (blk S.sectors) d b ⟨x0,x1,(d:Int),x3,x4,x5,x6,x7⟩ from ⟨hr,rfl,hgb,hfit.1,hfit.2⟩)
      clear hr hgb hfit hg hso
      unfold Go.Proofs.YtepoepmndckmaaaGreatDoor.S.Decoded Go.Proofs.YtepoepmndckmaaaGreatDoor.S.Sup.val at HDE
      simp only [Go.Proofs.YtepoepmndckmaaaGreatDoor.S.Sup.cells] at HDE
      go_wp2_with fail
      refine HDE.out.mono ?_
      rintro e w3 ⟨rfl,hb3⟩
      have hb4:Below w3.heap.size w3 (w3.alloc (.cells #[.int .i64 x0,.int .i64 x1,.int .i64 (d:Int),.int .i64 x3,.int .i64 x4,.int .i64 x5,.int .i64 x6,.int .i64 x7] 81)):=(Below.refl _ _).alloc (Nat.le_refl _) _
      have h4:=heap_alloc_new w3 (.cells #[.int .i64 x0,.int .i64 x1,.int .i64 (d:Int),.int .i64 x3,.int .i64 x4,.int .i64 x5,.int .i64 x6,.int .i64 x7] 81)
      have hz3:=Nat.lt_of_lt_of_le HZ2.out hb3.size
      have hB4:=hb3.trans (hb4.mono hb3.size)
      have HQ4:=hid ((hb4.block w.heap.size hz3).trans ((hb3.block w.heap.size HZ2.out).trans HQ2.out))
      have V4:=HH.out.1.stay ((HD2.out.grown hB4).on.shelf) (HO2.out.trans (only_below F hB4) fun b e=>.inl e)
      have HFI:=hid (fits_says V4 (by rw [looked_disks];exact HH.out.2) d b ⟨x0,x1,(d:Int),x3,x4,x5,x6,x7⟩ (by rw [looked_sectors];exact HSI.out))
      unfold Go.Proofs.YtepoepmndckmaaaGreatDoor.S.Sup.val at HFI
      simp only [Go.Proofs.YtepoepmndckmaaaGreatDoor.S.Sup.cells] at HFI
      obtain ⟨k0,k1,k2,k3,k4,k5,k6,k7,_⟩:=Go.Proofs.YtepoepmndckmaaaGreatDoor.S.cells8_of h4
      have HR4:=hid (And.intro h4 (And.intro hz3 hB4))
      clear hb3 hb4 hz3 hB4 HDE V4 h4
      go_wp2_with (go_at_call 90;refine (HSL.out _).mono ?_;rintro e w' ⟨rfl,rfl⟩)
      generalize hw4:w3.alloc (.cells #[.int .i64 x0,.int .i64 x1,.int .i64 (d:Int),.int .i64 x3,.int .i64 x4,.int .i64 x5,.int .i64 x6,.int .i64 x7] 81)=w4 at *
      generalize hq3:w3.heap.size=q3 at *
      refine HFI.out.mono ?_
      rintro e w5 ⟨rfl,hb5⟩
      have hz4:w.heap.size<w4.heap.size:=Nat.lt_of_lt_of_le HZ2.out HR4.out.2.2.size
      have HQ5:=hid ((hb5.block w.heap.size hz4).trans HQ4.out)
      have h5:=(hb5.block q3 (lt_of_block HR4.out.1)).trans HR4.out.1
      have HB5:=hid (HR4.out.2.2.trans (hb5.mono HR4.out.2.2.size))
      clear k0 k1 k2 k3 k4 k5 k6 k7 hw4 hq3
      obtain ⟨j0,j1,j2,j3,j4,j5,j6,j7,_⟩:=Go.Proofs.YtepoepmndckmaaaGreatDoor.S.cells8_of h5
      obtain ⟨k0,k1,k2,k3,k4,k5,k6,k7,f0,f1,f2,f3,f4,f5,f6,f7⟩:=Go.Proofs.YtepoepmndckmaaaGreatDoor.S.cells8_of HQ5.out
      have s0:=Go.Proofs.YtepoepmndckmaaaGreatDoor.S.store0 HQ5.out (.int .i64 x0) (by rfl)
      clear hb5 h5 HFI hz4
      go_wp2_with fail
      have hlv:=run_loadVar_row (P:=Tryz.prog) _ w.heap.size 81 81 _ (0,0) _ (Go.Proofs.YtepoepmndckmaaaGreatDoor.S.put8_row HQ5.out (.int .i64 x0) (.int .i64 x1) (.int .i64 (d:Int)) (.int .i64 x3) (.int .i64 x4) (.int .i64 x5) (.int .i64 x6) (.int .i64 x7)) Tryz.underlying81 rfl Go.Proofs.YtepoepmndckmaaaGreatDoor.S.info_sup
      refine bodyPost_ret (Go.Proofs.YtepoepmndckmaaaGreatDoor.S.results_cell2 (g:=w.heap.size) Tryz.results89 rfl hlv rfl) rfl ?_
      exact ⟨⟨x0,x1,(d:Int),x3,x4,x5,x6,x7⟩,true,rfl,fun _=>HSO.out,fun e=>Bool.noConfusion e,FIN.out _ (.int .i64 x0) (.int .i64 x1) (.int .i64 (d:Int)) (.int .i64 x3) (.int .i64 x4) (.int .i64 x5) (.int .i64 x6) (.int .i64 x7) HB5.out⟩
end
def sayTo (S:Sh.Sf) (j k:Nat):List SuP:=(slotsTo 2 j k).filterMap fun x=>sayO S x.1 x.2
theorem sayTo_succ (S:Sh.Sf) (j k:Nat):sayTo S j (k+1)=sayTo S j k++(sayO S j k).toList:=by
 unfold sayTo
 rw [slotsTo_succ,List.filterMap_append]
 cases h:sayO S j k<;>simp [h]
theorem sayTo_next (S:Sh.Sf) (j:Nat):sayTo S (j+1) 0=sayTo S j 2:=by unfold sayTo;rw [slotsTo_next]
theorem sayTo_le (S:Sh.Sf) (j k:Nat):(sayTo S j k).length<=j*2+k:=by
 unfold sayTo
 have:=List.length_filterMap_le (fun x:Nat × Nat=>sayO S x.1 x.2) (slotsTo 2 j k)
 rw [slotsTo_length] at this
 exact this
def supCells (l:List SuP):List Value:=l.flatMap fun x=>x.cells.toList
theorem supCells_snoc (l:List SuP) (x:SuP):supCells (l++[x])=supCells l++x.cells.toList:=by simp [supCells]
theorem info_sup3:(Tryz.prog.info? 81).map (fun i=>(i.zero,i.size,i.bytes))=some (some (.agg #[.int .i64 0,.int .i64 0,.int .i64 0,.int .i64 0,.int .i64 0,.int .i64 0,.int .i64 0,.int .i64 0]),8,64):=by kernel_rfl
def SupOwn (w:World) (base:Nat) (v:Value) (l:List SuP):Prop:=w.ownsRow base 81 8 v l.length (supCells l)
section
variable {B:Nat} {W w w':World} {v p t n mo mu:Nat} {s:SuP} {base:Int} {a:Nat->Nat} {o:Nat->Int} {g:Nat->Option Addr} {S S':Sh.Sf} {F:Nat->Prop}
def SgRel (B:Nat) (W w:World) (v p t n mo mu:Nat) (s:SuP) (base:Int) (a:Nat->Nat) (o:Nat->Int) (g:Nat->Option Addr) (S:Sh.Sf) (F:Nat->Prop) (j k:Nat) (u:Value) (wr:World):Prop :=
 VoS B W w wr v p t n mo mu s base a o g S F/\SupOwn wr w.heap.size u (sayTo S j k)
theorem SupOwn.over {u:Value} {l:List SuP} (h:SupOwn w w'.heap.size u l) {w2:World} (ho:Sh.Only F w w2) (hF:∀b,F b->b<w'.heap.size):SupOwn w2 w'.heap.size u l :=
 Sh.same_row h (fun b hb=>ho.block b (h.lt b hb).2 (fun e=>by have:=hF b e;have:=(h.lt b hb).1;omega))
theorem VoS.trans {w2:World} (h:VoS B W w w' v p t n mo mu s base a o g S F) (k:∀S1,Same S S1->Vo B W w' v p t n mo mu s base a o g S1 F->VoS B W w' w2 v p t n mo mu s base a o g S1 F):VoS B W w w2 v p t n mo mu s base a o g S F:=by
 obtain ⟨S1,h1,h2,h3⟩:=h
 obtain ⟨S2,k1,k2,k3⟩:=k S1 h1 h2
 exact ⟨S2,h1.trans k1,k2,h3.trans k3 fun b e=>.inl e⟩
theorem Vo.below_stay (h:Vo B W w v p t n mo mu s base a o g S F) (hb:Below w.heap.size w w'):VoS B W w w' v p t n mo mu s base a o g S F:=⟨S,Same.refl S,h.grown hb,only_below F hb⟩
def SgQ (B:Nat) (W w:World) (v p t n mo mu:Nat) (s:SuP) (base:Int) (a:Nat->Nat) (o:Nat->Int) (g:Nat->Option Addr) (S:Sh.Sf) (F:Nat->Prop) (e:Ending) (w':World):Prop :=
 ∃u,e=.returned u/\VoS B W w w' v p t n mo mu s base a o g S F/\SupOwn w' w.heap.size u (sayTo S n 0)
set_option maxRecDepth 20000 in
set_option maxHeartbeats 4000000 in
theorem sayings_any (h:Vo B W w v p t n mo mu s base a o g S F) (hT:Tabs W) (hTB:max 0 1+1<=B) (hWi:Go.Proofs.YtepoepmndckmaaaGreatDoor.S.Wid W) (hWB:2+1<=B)
  (hn:S.disks.length=n) (hbb:2<=blk S.sectors) (hsay:∀d b x,d<n->b<2->sayO S d b=some x->SayIs n (blk S.sectors) d b x) :
  Calls Tryz.prog 57 #[.pointer (some ⟨v,0,none⟩)] w (SgQ B W w v p t n mo mu s base a o g S F):=by
 obtain ⟨i0,hi,hz0,hz1,hz2⟩:=info_parts info_sup3
 have c10:=h.vol.c10
 have h17:n<=17:=by
  obtain ⟨D0,gs,q⟩:=h.ds.on.shelf
  have:=q.most
  omega
 have HN:=hid hn
 have HSA:=hid hsay
 have HH0:=hid h
 have HF:=hid (fun (b:Nat) (hF:F b)=>h.ds.lt b (.inl hF))
 have hrel0:Hid (SgRel B W w v p t n mo mu s base a o g S F 0 0 (.slice none 0 0) w):=hid ⟨h.below_stay (Below.refl _ _),World.ownsRow_nil _ _ _ _⟩
 clear h hn hsay
 go_enter Tryz.func57,Tryz.ntmps57
 go_wp2
 clear c10
 go_loopw [3,13] (fun u i wr=>∃j:Nat,j<=n/\i=.int .i64 j/\Hid (SgRel B W w v p t n mo mu s base a o g S F j 0 u wr)) (fun _ i _=>n-(intOf i).toNat)
 case atStart=>exact ⟨0,Nat.zero_le _,rfl,hrel0⟩
 case round =>
  obtain ⟨j,hj,rfl,hrel⟩:=hrel
  by_cases hlt:j<n
  ·have HRL:=hrel
   clear hrel hrel0
   go_wp2
   go_loopw [3,16] (fun u i wr=>∃k:Nat,k<=2/\i=.int .i64 k/\Hid (SgRel B W w v p t n mo mu s base a o g S F j k u wr)) (fun _ i _=>2-(intOf i).toNat)
   case atStart=>exact ⟨0,Nat.zero_le _,rfl,HRL⟩
   case round =>
    obtain ⟨k,hk,rfl,hrel⟩:=hrel
    by_cases hkt:k<2
    ·obtain ⟨⟨S1,s1,V1,O1⟩,hown⟩:=hrel.out
     have HSY:=hid (saying_any V1 hT hTB hWi hWB (s1.len.trans HN.out) j k hlt hkt (by rw [s1.sectors];exact hbb) (fun x hx=>by rw [sayO_same s1] at hx;rw [s1.sectors];exact HSA.out j k x hlt hkt hx))
     rw [sayO_same s1] at HSY
     have HK:=hid (And.intro s1 (And.intro V1 (And.intro O1 hown)))
     have HTS:=hid (sayTo_succ S j k)
     have HLE:=hid (sayTo_le S j k)
     clear s1 V1 O1 hown hrel
     generalize sayO S j k=so at *
     go_wp2_with fail
     refine HSY.out.mono ?_
     rintro e w2 ⟨x,b,rfl,hb1,hb0,hvs⟩
     obtain ⟨s1,V1,O1,hown⟩:=HK.out
     obtain ⟨x0,x1,x2,x3,x4,x5,x6,x7⟩:=x
     have hvs2:VoS B W w w2 v p t n mo mu s base a o g S F:=by
      obtain ⟨S2,k1,k2,k3⟩:=hvs
      exact ⟨S2,s1.trans k1,k2,O1.trans k3 fun b e=>.inl e⟩
     have hown2:SupOwn w2 w.heap.size u3 (sayTo S j k):=by
      obtain ⟨S2,k1,k2,k3⟩:=hvs
      exact SupOwn.over hown k3 HF.out
     have hbw:Below w2.heap.size w2 (w2.alloc (.cells #[.int .i64 x0,.int .i64 x1,.int .i64 x2,.int .i64 x3,.int .i64 x4,.int .i64 x5,.int .i64 x6,.int .i64 x7] 81)):=(Below.refl _ _).alloc (Nat.le_refl _) _
     clear hvs s1 V1 O1 hown HK
     unfold Go.Proofs.YtepoepmndckmaaaGreatDoor.S.Sup.val
     simp only [Go.Proofs.YtepoepmndckmaaaGreatDoor.S.Sup.cells]
     cases b
     ·have hno:=hb0 rfl
      have HR:Hid (SgRel B W w v p t n mo mu s base a o g S F j (k+1) u3 (w2.alloc (.cells #[.int .i64 x0,.int .i64 x1,.int .i64 x2,.int .i64 x3,.int .i64 x4,.int .i64 x5,.int .i64 x6,.int .i64 x7] 81))):=hid ⟨hvs2.trans fun S1 _ V=>V.below_stay hbw,by
       rw [HTS.out,hno]
       simpa using hown2.over (only_below F hbw) HF.out⟩
      clear hno hb0 hb1 hvs2 hown2 hbw HSY HTS HLE
      go_wp2_with fail
      go_roundw
      case rel=>exact ⟨k+1,by omega,by go_num,HR⟩
      case measure=>simp [intOf];omega
     ·have hso:=hb1 rfl
      have hbw2:Below w2.heap.size w2 ((w2.alloc (.cells #[.int .i64 x0,.int .i64 x1,.int .i64 x2,.int .i64 x3,.int .i64 x4,.int .i64 x5,.int .i64 x6,.int .i64 x7] 81)).alloc (.cells #[.int .i64 x0,.int .i64 x1,.int .i64 x2,.int .i64 x3,.int .i64 x4,.int .i64 x5,.int .i64 x6,.int .i64 x7] 81)):=hbw.alloc (by simp) _
      have hz3:(w2.alloc (.cells #[.int .i64 x0,.int .i64 x1,.int .i64 x2,.int .i64 x3,.int .i64 x4,.int .i64 x5,.int .i64 x6,.int .i64 x7] 81)).heap.size=w2.heap.size+1:=by simp
      have HHZ:=hid (show ((w2.alloc (.cells #[.int .i64 x0,.int .i64 x1,.int .i64 x2,.int .i64 x3,.int .i64 x4,.int .i64 x5,.int .i64 x6,.int .i64 x7] 81)).alloc (.cells #[.int .i64 x0,.int .i64 x1,.int .i64 x2,.int .i64 x3,.int .i64 x4,.int .i64 x5,.int .i64 x6,.int .i64 x7] 81)).heap.size=w2.heap.size+2 by simp)
      have hnews:∀j u,([Value.int .i64 x0,.int .i64 x1,.int .i64 x2,.int .i64 x3,.int .i64 x4,.int .i64 x5,.int .i64 x6,.int .i64 x7]:List Value)[j]?=some u->((w2.alloc (.cells #[.int .i64 x0,.int .i64 x1,.int .i64 x2,.int .i64 x3,.int .i64 x4,.int .i64 x5,.int .i64 x6,.int .i64 x7] 81)).alloc (.cells #[.int .i64 x0,.int .i64 x1,.int .i64 x2,.int .i64 x3,.int .i64 x4,.int .i64 x5,.int .i64 x6,.int .i64 x7] 81)).cell? ((⟨w2.heap.size+1,0,none⟩:Addr).add j)=some u:=by
       intro j u hu
       have hrow:=heap_alloc_new (w2.alloc (.cells #[.int .i64 x0,.int .i64 x1,.int .i64 x2,.int .i64 x3,.int .i64 x4,.int .i64 x5,.int .i64 x6,.int .i64 x7] 81)) (.cells #[.int .i64 x0,.int .i64 x1,.int .i64 x2,.int .i64 x3,.int .i64 x4,.int .i64 x5,.int .i64 x6,.int .i64 x7] 81)
       rw [hz3] at hrow
       rw [add_plain,Nat.zero_add,cell_of_row _ _ j _ _ _ hrow]
       exact (List.getElem?_toArray (xs:=[Value.int .i64 x0,.int .i64 x1,.int .i64 x2,.int .i64 x3,.int .i64 x4,.int .i64 x5,.int .i64 x6,.int .i64 x7])).trans hu
      obtain ⟨k0,k1,k2,k3,k4,k5,k6,k7,_⟩:=Go.Proofs.YtepoepmndckmaaaGreatDoor.S.cells8_of (heap_alloc_new w2 (.cells #[.int .i64 x0,.int .i64 x1,.int .i64 x2,.int .i64 x3,.int .i64 x4,.int .i64 x5,.int .i64 x6,.int .i64 x7] 81))
      have hEown:((w2.alloc (.cells #[.int .i64 x0,.int .i64 x1,.int .i64 x2,.int .i64 x3,.int .i64 x4,.int .i64 x5,.int .i64 x6,.int .i64 x7] 81)).alloc (.cells #[.int .i64 x0,.int .i64 x1,.int .i64 x2,.int .i64 x3,.int .i64 x4,.int .i64 x5,.int .i64 x6,.int .i64 x7] 81)).ownsRow w.heap.size 81 8 u3 (sayTo S j k).length (supCells (sayTo S j k)):=hown2.over (only_below F hbw2) HF.out
      have HV2:=hid (hvs2.trans fun S1 _ V=>V.below_stay hbw2)
      have HTE:Hid (sayTo S j (k+1)=sayTo S j k++[⟨x0,x1,x2,x3,x4,x5,x6,x7⟩]):=hid (by rw [HTS.out,hso];rfl)
      have hlen:(sayTo S j k).length<=40:=by have:=HLE.out;omega
      have hsz2:w.heap.size<=w2.heap.size:=by
       obtain ⟨S2,_,_,k3⟩:=hvs2
       exact k3.size
      have HSZ:=hid hsz2
      clear hso hb0 hb1 hvs2 hown2 hbw hbw2 hz3 HSY HTS HLE
      go_wp2_with (at_builtin;refine wpList_append_own_at _ rfl _ _ 113 rfl w.heap.size 81 i0 _ 8 64 Tryz.underlying113 hi hz0 hz1 hz2 rfl (by decide) _ (sayTo S j k).length (supCells (sayTo S j k)) rfl hEown ⟨w2.heap.size+1,0,none⟩ 1 1 [Value.int .i64 x0,.int .i64 x1,.int .i64 x2,.int .i64 x3,.int .i64 x4,.int .i64 x5,.int .i64 x6,.int .i64 x7] rfl rfl hnews (by intro u hu;simp at hu;rcases hu with rfl | rfl | rfl | rfl | rfl | rfl | rfl | rfl<;>rfl) (by unfold maxLen;omega) (by omega) (by have:=HHZ.out;omega) ?_;intro v5 w5 own5 hg5 _ hob5)
      have hR:SgRel B W w v p t n mo mu s base a o g S F j (k+1) v5 w5:=by
       refine ⟨?_,?_⟩
       ·obtain ⟨S2,q1,q2,q3⟩:=HV2.out
        have hO5:Sh.Only F w w5:=q3.grown hg5 (fun b hb=>.inr ((hEown.lt b hb).1))
        have ho:Sh.Only (fun b=>u3.ownBlock=some b) ((w2.alloc (.cells #[.int .i64 x0,.int .i64 x1,.int .i64 x2,.int .i64 x3,.int .i64 x4,.int .i64 x5,.int .i64 x6,.int .i64 x7] 81)).alloc (.cells #[.int .i64 x0,.int .i64 x1,.int .i64 x2,.int .i64 x3,.int .i64 x4,.int .i64 x5,.int .i64 x6,.int .i64 x7] 81)) w5:=⟨hg5.os,hg5.tape,hg5.output,hg5.size,fun k hk hne=>hg5.block k hk (fun e=>hne e.symm)⟩
        refine ⟨S2,q1,HH0.out.stay (q2.ds.on.shelf.only ho (fun b hF e=>?_)) hO5,hO5⟩
        have h1:=(hEown.lt b e).1
        have h2:=HF.out b hF
        omega
       ·unfold SupOwn
        rw [HTE.out,List.length_append,supCells_snoc]
        exact own5
      have HR:=hid hR
      clear hR own5 hg5 hob5 hEown hnews
      go_wp2_with fail
      go_roundw
      case rel=>exact ⟨k+1,by omega,by go_num,HR⟩
      case measure=>simp [intOf];omega
    ·have hk2:k=2:=by omega
     subst hk2
     obtain ⟨hv,hown⟩:=hrel.out
     have HR:=hid (show SgRel B W w v p t n mo mu s base a o g S F (j+1) 0 u3 wr from ⟨hv,by rw [sayTo_next];exact hown⟩)
     clear hv hown hrel HRL
     go_wp2
     go_roundw
     case rel=>exact ⟨j+1,by omega,by go_num,HR⟩
     case measure=>simp [intOf];omega
  ·obtain rfl:j=n:=by omega
   have HR:=hid hrel.out
   clear hrel hrel0
   go_wp2
   go_ret
   exact ⟨_,rfl,HR.out.1,HR.out.2⟩
end
def SuR (S:Sh.Sf) (d:Nat) (o:Int) (k:Nat) (b:Sh.Bs) (y o':Int) (S':Sh.Sf):Prop :=
 ∃y1 o1 S1,DW S d o k b y1 o1 S1/\((y1≠0/\y=y1/\o'=o1/\S'=S1)\/(y1=0/\y=Sh.why S1 d/\o'=shut (Sh.why S1 d) o1/\S'=Fl S1 d))
section
variable {S S':Sh.Sf} {d k:Nat} {o y o':Int} {b:Sh.Bs}
theorem SuR.len (h:SuR S d o k b y o' S'):S'.disks.length=S.disks.length:=by
 obtain ⟨_,_,_,h1,⟨_,_,_,rfl⟩ | ⟨_,_,_,rfl⟩⟩:=h
 ·exact h1.len
 ·exact (fl_length _ _).trans h1.len
theorem SuR.sectors (h:SuR S d o k b y o' S'):S'.sectors=S.sectors:=by
 obtain ⟨_,_,_,h1,⟨_,_,_,rfl⟩ | ⟨_,_,_,rfl⟩⟩:=h
 ·exact h1.sectors
 ·exact (fl_sectors _ _).trans h1.sectors
theorem SuR.alike (h:SuR S d o k b y o' S'):Alike d S S':=by
 obtain ⟨_,_,_,h1,⟨_,_,_,rfl⟩ | ⟨_,_,_,rfl⟩⟩:=h
 ·exact h1.alike
 ·exact h1.alike.trans (alike_fl _ _)
theorem SuR.waits {m:Nat} (h:SuR S d o k b y o' S') (hL:∀x∈S.disks,x.waits.length<=m):∀x∈S'.disks,x.waits.length<=m+3:=by
 obtain ⟨_,_,_,h1,⟨_,_,_,rfl⟩ | ⟨_,_,_,rfl⟩⟩:=h
 ·exact h1.waits hL
 ·exact fl_lens (h1.waits hL)
end
section
variable {B:Nat} {W w:World} {a p d:Nat} {o:Int} {S:Sh.Sf} {F:Nat->Prop}
theorem sureR_any (h:Dv B W w a p d o S F) (hT:Tabs W) (hTB:max 0 1+1<=B) (hd:d<S.disks.length) (k:Nat) (hk:k<blk S.sectors) (b:Sh.Bs) {A:Option Addr} {c:Nat} {m:Nat}
  (hb:Sh.Sec b) (hA:Sh.Beside w (With F a) A b) (hL:∀k∈S.disks,k.waits.length<=m) (hm:m<=1000000) (g:Option Addr) :
  Calls Tryz.prog 125 #[.agg #[.pointer (some ⟨a,0,none⟩),.pointer g],.int .i64 k,.slice A 128 c] w fun e w'=>∃y:Int,e=.returned (.int .i64 y)/\∃o' S',SuR S d o k b y o' S'/\Goes B W w w' a p d o' S' F:=by
 have hbw:Below w.heap.size w (w.alloc (.cells #[.pointer (some ⟨a,0,none⟩),.pointer g] 133)):=(Below.refl _ _).alloc (Nat.le_refl _) _
 have hl:=heap_alloc_new w (.cells #[.pointer (some ⟨a,0,none⟩),.pointer g] 133)
 have hlt:=with_lt h
 have HWR:=hid (dwrite (c:=c) (h.grown hbw) hT hTB k hk hd b hb (hA.grown hbw) hL (by omega))
 have l0:=cell_of_row _ _ 0 _ _ _ hl
 simp only [List.getElem?_toArray,List.getElem?_cons_zero] at l0
 have HLT:=hid hlt
 have HB:=hid hbw
 have HL2:=hid hl
 have HM:=hid hm
 have HD:=hid (And.intro hd hL)
 clear h hb hA hL hl hbw hlt hk hm hd
 go_enter Tryz.func125,Tryz.ntmps125
 go_wp2_with fail
 refine HWR.out.mono ?_
 rintro e w1 ⟨y,rfl,o1,S1,hW,F1,D1,M1⟩
 have hrow:w1.heap[w.heap.size]?=_:=(M1.1.block w.heap.size (lt_of_block HL2.out) (fun e=>Nat.lt_irrefl _ (HLT.out _ e))).trans HL2.out
 have k0:=cell_of_row _ _ 0 _ _ _ hrow
 simp only [List.getElem?_toArray,List.getElem?_cons_zero] at k0
 have M0:Sh.Moves (With F a) w (With F1 a) w1:=(moves_below HB.out).trans M1
 by_cases h0:y=0
 ·subst h0
  have HFL:=hid (flush_dev D1 (by rw [hW.len];exact HD.out.1) (fun x hx=>by have:=hW.waits HD.out.2 x hx;have:=HM.out;omega))
  have KEEP:=hid (And.intro (show SuR S d o k b (Sh.why S1 d) (shut (Sh.why S1 d) o1) (Fl S1 d) from ⟨0,o1,S1,hW,.inr ⟨rfl,rfl,rfl,rfl⟩⟩) M0)
  generalize shut (Sh.why S1 d) o1=o2 at *
  generalize Sh.why S1 d=y2 at *
  clear hW D1 M1 M0 hrow l0 HWR
  go_wp2_with fail
  refine HFL.out.mono ?_
  rintro e w2 ⟨rfl,F2,D2,M2⟩
  go_wp2
  go_ret
  exact ⟨y2,rfl,o2,_,KEEP.out.1,F2,D2,KEEP.out.2.trans M2⟩
 ·have hq:(y == 0)=false:=by rw [beq_eq_false_iff_ne];exact h0
  have KEEP:=hid (And.intro (show SuR S d o k b y o1 S1 from ⟨y,o1,S1,hW,.inl ⟨h0,rfl,rfl,rfl⟩⟩) (And.intro D1 M0))
  clear hW D1 M1 M0 hrow l0 HWR h0
  go_wp2
  go_ret
  exact ⟨y,rfl,o1,S1,KEEP.out.1,F1,KEEP.out.2.1,KEEP.out.2.2⟩
end
section
variable {B:Nat} {W w w':World} {v p t n mo mu q:Nat} {s x:SuP} {base:Int} {a:Nat->Nat} {o:Nat->Int} {g:Nat->Option Addr} {S S':Sh.Sf} {F:Nat->Prop}
set_option maxRecDepth 20000 in
theorem sayOn_rel (h:Vo B W w v p t n mo mu s base a o g S F) (hT:Tabs W) (hTB:max 0 1+1<=B) (hWi:Go.Proofs.YtepoepmndckmaaaGreatDoor.S.Wid W) (hWB:2+1<=B)
  (d:Nat) (hd:d<n) (x:SuP) (hr:({ x with disk:=(d:Int) }:SuP).right=true) (hn:S.disks.length=n) (hb:2<=blk S.sectors) {m:Nat} (hL:∀k∈S.disks,k.waits.length<=m) (hm:m<=1000000) :
  Calls Tryz.prog 93 #[.pointer (some ⟨v,0,none⟩),.int .i64 d,x.val] w fun e w'=>∃y:Int,e=.returned (.int .i64 y)/\∃o' S',SuR S d (o d) (x.gen%2).toNat (Go.Proofs.YtepoepmndckmaaaGreatDoor.S.encL ({ x with disk:=(d:Int) }:SuP).nums) y o' S'/\VGoes B W w w' v p t n mo mu s base a (put1 o d o') g S' F:=by
 obtain ⟨hg1,-⟩:=Go.Proofs.YtepoepmndckmaaaGreatDoor.S.right_parts hr
 obtain ⟨x0,x1,x2,x3,x4,x5,x6,x7⟩:=x
 simp only at hr hg1 ⊢
 obtain ⟨K,hK,hK2⟩:∃K:Nat,x0%2=(K:Int)/\K<2:=⟨(x0%2).toNat,by omega,by omega⟩
 have hKn:(x0%2).toNat=K:=by omega
 rw [hKn]
 have HSL:=hid (fun w=>Go.Proofs.YtepoepmndckmaaaGreatDoor.S.slot_any x0 w (by omega) (by omega))
 rw [hK] at HSL
 have hlt:=with_lt (h.ds.dv hd)
 have hvl:=h.vol.vlt
 have htl:=h.vol.tlt
 have hr1:(w.alloc (.cells #[.int .i64 x0,.int .i64 x1,.int .i64 (d:Int),.int .i64 x3,.int .i64 x4,.int .i64 x5,.int .i64 x6,.int .i64 x7] 81)).heap[w.heap.size]?=some (.cells (⟨x0,x1,(d:Int),x3,x4,x5,x6,x7⟩:SuP).cells 81 (0,0)):=heap_alloc_new w _
 have hb1:Below w.heap.size w (w.alloc (.cells #[.int .i64 x0,.int .i64 x1,.int .i64 (d:Int),.int .i64 x3,.int .i64 x4,.int .i64 x5,.int .i64 x6,.int .i64 x7] 81)):=(Below.refl _ w).alloc (Nat.le_refl _) _
 have HR1:=hid hr1
 have HB1:=hid hb1
 have HQ:Hid (∀b,With F (a d) b->b≠v/\b≠t/\b≠w.heap.size):=hid fun b e=>by
  have h1:=hlt b e
  have h2:=h.apart b (e.imp id fun e=>⟨d,hd,e⟩)
  exact ⟨h2.1,h2.2.1,by omega⟩
 obtain ⟨c0,c1,c2,c3,c4,c5,c6,c7⟩:=sup_cells hr1
 simp only at c0 c1 c2 c3 c4 c5 c6 c7
 have HV:=hid h
 have HR:=hid hr
 have HJ:=hid (show d<S.disks.length by rw [hn];exact hd)
 have HLT:=hid hlt
 have j0:=fun (W':World) (h:SayS v p t n mo mu s base a g w.heap.size ⟨x0,x1,(d:Int),x3,x4,x5,x6,x7⟩ W')=>h.1.c10
 have j1:=fun (W':World) (h:SayS v p t n mo mu s base a g w.heap.size ⟨x0,x1,(d:Int),x3,x4,x5,x6,x7⟩ W')=>h.1.dev hd
 have j2:=fun (W':World) (h:SayS v p t n mo mu s base a g w.heap.size ⟨x0,x1,(d:Int),x3,x4,x5,x6,x7⟩ W')=>h.1.log hd
 have j3:=fun (W':World) (h:SayS v p t n mo mu s base a g w.heap.size ⟨x0,x1,(d:Int),x3,x4,x5,x6,x7⟩ W')=>show W'.cell? ⟨w.heap.size,0,none⟩=some (.int .i64 x0) from (sup_cells h.2).1
 have h17:n<=17:=by
  obtain ⟨D,gs,q⟩:=h.ds.on.shelf
  have:=q.most
  omega
 clear h hr hr1 hb1 hlt
 unfold Go.Proofs.YtepoepmndckmaaaGreatDoor.S.Sup.val
 simp only [Go.Proofs.YtepoepmndckmaaaGreatDoor.S.Sup.cells]
 go_enter Tryz.func93,Tryz.ntmps93
 go_wp2_with fail
 generalize (w.alloc (.cells #[.int .i64 x0,.int .i64 x1,.int .i64 (d:Int),.int .i64 x3,.int .i64 x4,.int .i64 x5,.int .i64 x6,.int .i64 x7] 81))=w1 at *
 have V1:=HV.out.grown HB1.out
 refine (Go.Proofs.YtepoepmndckmaaaGreatDoor.S.encode_ok ⟨x0,x1,(d:Int),x3,x4,x5,x6,x7⟩ w1 HR.out (hT.below hTB V1.ds.on.bel) (hWi.below hWB V1.ds.on.bel)).mono ?_
 rintro e w2 ⟨g2,rfl,ho,hb2⟩
 have b2:Below w.heap.size w w2.drew:=(HB1.out.trans (hb2.mono HB1.out.size)).drew
 have V2:=HV.out.grown b2
 have hS2:SayS v p t n mo mu s base a g w.heap.size ⟨x0,x1,(d:Int),x3,x4,x5,x6,x7⟩ w2.drew:=⟨V2.vol,(hb2.block w.heap.size (lt_of_block HR1.out)).trans HR1.out⟩
 have hbs:Sh.Beside w2.drew (With F (a d)) (some ⟨g2,0,none⟩) (Go.Proofs.YtepoepmndckmaaaGreatDoor.S.encL (⟨x0,x1,(d:Int),x3,x4,x5,x6,x7⟩:SuP).nums):=⟨Sh.Reads.of_own (w:=w2) ho,fun z hz e=>by
  injection hz with hz
  subst hz
  have:g2<w.heap.size:=HLT.out g2 e
  have:w1.heap.size<=g2:=(ho.lt g2 rfl).1
  have:=HB1.out.size
  omega⟩
 have HSU:=hid (sureR_any (c:=128) (V2.ds.dv hd) hT hTB HJ.out K (by omega) _ ⟨Go.Proofs.YtepoepmndckmaaaGreatDoor.S.encL_length _,Go.Proofs.YtepoepmndckmaaaGreatDoor.S.encL_small _⟩ hbs hL hm (g d))
 have KEEP:=hid (And.intro V2 b2)
 have hS3:=hid hS2
 clear V1 V2 hbs hS2 ho hb2 b2 c0 c1 c2 c3 c4 c5 c6 c7
 generalize hle:Go.Proofs.YtepoepmndckmaaaGreatDoor.S.encL (⟨x0,x1,(d:Int),x3,x4,x5,x6,x7⟩:SuP).nums=l at *
 have HLE:=hid hle
 clear hle
 go_wp2_with fail
 refine wp_region_held_drew (S:=SayS v p t n mo mu s base a g w.heap.size ⟨x0,x1,(d:Int),x3,x4,x5,x6,x7⟩) (by kernel_rfl) hS3.out (fun hHeld=>?_)
 refine tk 0 19 ?_
 refine tk 1 20 ?_
 refine tk 2 21 ?_
 refine tk 3 22 ?_
 refine tk 4 23 ?_
 refine tk 5 24 ?_
 refine tk 6 25 ?_
 refine tk 7 26 ?_
 refine tk 8 27 ?_
 refine tk 10 29 ?_
 refine r1 9 (some 28) fun K hK=>?_
 go_simp
 refine (HSL.out _).mono ?_
 rintro e w' ⟨rfl,rfl⟩
 refine hK.out _ _ (hHeld) (fun hHeld=>?_)
 clear hK K
 try simp only [Act.put,List.setIfInBounds_toArray,List.set_cons_zero,List.set_cons_succ]
 refine r1 11 (some 30) fun K hK=>?_
 go_simp
 refine (HSU.out).mono ?_
 rintro e w4 ⟨y,rfl,o4,S4,hSu,hG⟩
 refine hK.out _ _ (sayS_moves hHeld HQ.out hG) (fun hHeld=>?_)
 clear hK K
 try simp only [Act.put,List.setIfInBounds_toArray,List.set_cons_zero,List.set_cons_succ]
 refine tk 12 6 ?_
 refine wpAnyH_done (by kernel_rfl) ?_ _
 go_wp2
 go_ret
 exact ⟨y,rfl,o4,S4,by rw [HLE.out];exact hSu,VGoes.trans (F':=F) ⟨⟨KEEP.out.2.os,KEEP.out.2.tape,KEEP.out.2.output,KEEP.out.2.size,fun k hk _=>KEEP.out.2.block k hk⟩,fun _ hb=>.inl hb⟩ (KEEP.out.1.goes (KEEP.out.1.ds.goes hd hG))⟩
end
end Go.Proofs.YtepoepmndckmaaaGreatDoor.U
