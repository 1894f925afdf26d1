/-
  What the statement's proof rests on, part 33.
  Conditions: each theorem's own.
-/
import Derived.Test.YtcnjpmcelihknaaGreatDoorV32
import Derived.Test.YtcnjpmcelihknaaGreatDoorVtk
open Go.Lib (hid)
open Go.Proofs.YtcnjpmcelihknaaGreatDoor.S renaming Sup → SuP
namespace Go.Proofs.YtcnjpmcelihknaaGreatDoor.U
open Go.RowKit Go.Maps
theorem info_rdsz:(Tryz.prog.info? 130).map (·.size)=some 2:=by kernel_rfl
set_option maxRecDepth 20000 in
theorem load_disk {w:World} {g:Nat} {v0 v1:Value} (h:w.heap[g]?=some (.cells #[v0,v1] 130 (0,0))):(loadVar 130 ⟨g,0,none⟩).run Tryz.prog w=.ok (.agg #[v0,v1]) w :=
 run_loadVar_row (P:=Tryz.prog) _ g 130 130 _ (0,0) _ h Tryz.underlying130 rfl info_rdsz
theorem field_disk (x y:Value) (w:World):(Instr.field 130 (.agg #[x,y]) 0).run Tryz.prog w=.ok x w:=by kernel_rfl
theorem drew_below (w:World):Below w.heap.size w w.drew:=⟨rfl,rfl,rfl,Nat.le_refl _,fun _ _=>rfl⟩
section
variable {w:World} {v p t n mo mu:Nat} {s:SuP} {base:Int} {a:Nat->Nat} {g:Nat->Option Addr}
set_option maxRecDepth 20000 in
theorem diskOf_ok (h:VolIs w v p t n mo mu s base a g) {M:Nat} (hm:s.mem=(M:Int)) (st m:Nat) (hd:numOf s M st m<n) :
  Calls Tryz.prog 145 #[.pointer (some ⟨v,0,none⟩),.int .i64 st,.int .i64 m] w fun e w'=>e=.returned (.agg #[.pointer (some ⟨a (numOf s M st m),0,none⟩),.pointer (g (numOf s M st m))])/\Below w.heap.size w w':=by
 have hb0:Below w.heap.size w (w.alloc (.cells #[.pointer none,.pointer none] 130)):=(Below.refl _ _).alloc (Nat.le_refl _) _
 have q0:=heap_alloc_new w (.cells #[.pointer none,.pointer none] 130)
 have V0:=h.kept (hb0.block _ h.vlt) (hb0.block _ h.tlt)
 have HN:=hid (numberOf_ok (V0.kept (w':=(w.alloc (.cells #[.pointer none,.pointer none] 130)).drew) rfl rfl) hm st m)
 have HV:=hid (V0.kept (w':=(w.alloc (.cells #[.pointer none,.pointer none] 130)).drew) rfl rfl)
 have HNE:=hid (And.intro (Nat.ne_of_lt h.vlt) (Nat.ne_of_lt h.tlt))
 have j10:=fun (W':World) (h:VolIs W' v p t n mo mu s base a g)=>h.c10
 have jd0:=fun (W':World) (h:VolIs W' v p t n mo mu s base a g)=>h.dev hd
 have jd1:=fun (W':World) (h:VolIs W' v p t n mo mu s base a g)=>h.log hd
 have HB:=hid hb0
 have HQ:=hid (show (w.alloc (.cells #[.pointer none,.pointer none] 130)).drew.heap[w.heap.size]?=_ from q0)
 generalize numOf s M st m=d at *
 clear h hm V0 hb0 q0
 go_enter Tryz.func145,Tryz.ntmps145
 go_wp2
 generalize w.alloc (.cells #[.pointer none,.pointer none] 130)=w0 at *
 refine wp_region_held_drew (S:=fun (W':World)=>VolIs W' v p t n mo mu s base a g) (by kernel_rfl) HV.out (fun hHeld=>?_)
 refine tk 0 7 ?_
 refine tk 1 8 ?_
 refine tk 2 9 ?_
 refine tk 3 10 ?_
 refine tk 4 11 ?_
 refine tk 5 12 ?_
 refine tk 6 13 ?_
 refine r1 7 (some 14) fun K hK=>?_
 go_simp
 refine (HN.out).mono ?_
 rintro e w2 ⟨rfl,rfl⟩
 refine hK.out _ _ (hHeld) (fun hHeld=>?_)
 clear hK K
 try simp only [Act.put,List.setIfInBounds_toArray,List.set_cons_zero,List.set_cons_succ]
 refine tk 8 15 ?_
 refine tk 9 16 ?_
 refine r1 10 none fun K hK=>?_
 rw [if_pos (by rfl)]
 refine wp_store_row 130 _ _ rfl (w.heap.size) (#[.pointer (some ⟨a d,0,none⟩),.pointer (g d)]) rfl rfl 130 _ HQ.out info_rdsz rfl (by simp [Value.oneCell']) ?_
 refine hK.out _ _ (hHeld.kept ((only_setRow _ _ _).block _ hHeld.vlt HNE.out.1) ((only_setRow _ _ _).block _ hHeld.tlt HNE.out.2)) (fun hHeld=>?_)
 clear hK K
 refine wpAnyH_done (by kernel_rfl) ?_ _
 have HLD:=hid (load_disk (setRow_heap w0.drew _ _ (#[.pointer (some ⟨a d,0,none⟩),.pointer (g d)]) _ _ (show _ from HQ.out)))
 have HE:=hid (HB.out.trans ((drew_below w0).mono HB.out.size))
 have HE2:=hid ((only_setRow w0.drew w.heap.size #[.pointer (some ⟨a d,0,none⟩),.pointer (g d)]).below (B:=w.heap.size) (fun b e=>by rw [e];exact Nat.le_refl _) HE.out.size)
 clear j10 jd0 jd1 hHeld
 go_wp2
 exact bodyPost_ret (results_cell (g:=w.heap.size) Tryz.results145 rfl HLD.out) rfl ⟨rfl,HE.out.trans HE2.out⟩
end
section
variable {J:Vk} {w w':World} {s:SuP} {o:Nat->Int} {S:Sh.Sf} {F:Nat->Prop} {D U:Set0} {M St:Nat}
theorem RGoes.cell9 (h:RGoes J w w' s o S F D U):w'.cell? ⟨J.v,9,none⟩=some (.int .i64 ((2+2*J.L:Nat):Int)):=by
 obtain ⟨F',V,_⟩:=h
 exact cell_of_row _ _ 9 _ _ _ V.vo.vol.root
theorem look_read (h:Vr J w s o S F D U) (hf:Fits J.n J.L s M St S) (hT:Tabs J.W) (hTB:max 0 1+1<=J.B) (st:Nat) (hst:st<St) (d:Nat) (hd:d<J.n) (w2:World) (hb2:Below w.heap.size w w2) :
  Calls Tryz.prog 186 #[.pointer (some ⟨J.a d,0,none⟩),.int .i64 (((2+2*J.L:Nat):Int)+(st:Int))] w2 fun e w' =>
   ReadO (rdY S d (2+2*J.L+st)) (V S d (dataOf (2+2*J.L+st))) w e w'/\RStay J w w' s o (Looked S d) F D U/\w'.cell? ⟨J.v,9,none⟩=some (.int .i64 ((2+2*J.L:Nat):Int)):=by
 have h2:=h.grown hb2
 have e1:((2+2*J.L:Nat):Int)+(st:Int)=((2+2*J.L+st:Nat):Int):=by omega
 rw [e1]
 have hk:2+2*J.L+st<blk S.sectors:=by have:=hf.need;omega
 have hdl:d<S.disks.length:=by rw [hf.len];exact hd
 generalize 2+2*J.L+st=k at *
 refine (dread (h2.dv hd) hT hTB k hk hdl).mono ?_
 rintro e w3 ⟨hX,hD,hO⟩
 have hG:=h2.stays hD hO
 exact ⟨hX.from hb2.size,RStay.trans (only_below _ hb2) hG,hG.goes.cell9⟩
set_option maxRecDepth 20000 in
set_option maxHeartbeats 800000 in
theorem look_any (h:Vr J w s o S F D U) (hf:Fits J.n J.L s M St S) (hT:Tabs J.W) (hTB:max 0 1+1<=J.B) (st m:Nat) (hst:st<St) (hm:m<M) :
  Calls Tryz.prog 151 #[.pointer (some ⟨J.v,0,none⟩),.int .i64 st,.int .i64 m] w fun e w' =>
   ReadO (rdY S (numOf s M st m) (2+2*J.L+st)) (V S (numOf s M st m) (dataOf (2+2*J.L+st))) w e w'/\RStay J w w' s o (Looked S (numOf s M st m)) F D U:=by
 have hd:=hf.num_lt st hm
 have h0:=h.grown (drew_below w)
 have HDO:=hid (diskOf_ok h0.vo.vol hf.mem st m hd)
 generalize numOf s M st m=d at *
 have HV:=hid h0.vo.vol.vlt
 have b9:w.drew.cell? ⟨J.v,9,none⟩=some (.int .i64 ((2+2*J.L:Nat):Int)):=cell_of_row _ _ 9 _ _ _ h0.vo.vol.root
 have HR:=hid (fun w2 (hb2:Below w.drew.heap.size w.drew w2)=>look_read h hf hT hTB st hst d hd w2 ((drew_below w).trans (hb2.mono (Nat.le_refl _))))
 have hbs:2+2*J.L<=18:=by have:=hf.l2;omega
 have hst2:st<1024:=by have:=hf.s2;omega
 generalize 2+2*J.L=bs at *
 have hwr:IntKind.i64.wrap ((bs:Int)+(st:Int))=(bs:Int)+(st:Int):=IntWalk.i64_in _ (by omega)
 have hfd:=field_disk
 clear h h0 hf hT hTB hst hm hd
 go_enter Tryz.func151,Tryz.ntmps151
 go_wp2
 refine wp_region_held_drew (S:=fun (W':World)=>W'.cell? ⟨J.v,9,none⟩=some (.int .i64 (bs:Int))) (by kernel_rfl) b9 (fun hHeld=>?_)
 refine tk 0 8 ?_
 refine tk 1 9 ?_
 refine tk 2 10 ?_
 refine tk 5 13 ?_
 refine tk 6 14 ?_
 refine tk 7 15 ?_
 refine tk 8 16 ?_
 refine tk 9 17 ?_
 refine tk 10 18 ?_
 refine r1 3 (some 11) fun K hK=>?_
 go_simp
 refine (HDO.out).mono ?_
 rintro e w2 ⟨rfl,hb2⟩
 refine hK.out _ _ ((hb2.cell (p:=⟨J.v,9,none⟩) HV.out).trans hHeld) (fun hHeld=>?_)
 clear hK K
 try simp only [Act.put,List.setIfInBounds_toArray,List.set_cons_zero,List.set_cons_succ]
 have hL2:=hid (HR.out w2 hb2)
 refine tk 4 12 ?_
 refine r1 11 (some 19) fun K hK=>?_
 go_simp
 refine (hL2.out).mono ?_
 rintro e w3 ⟨⟨A,nn,cc,rfl,hX⟩,hG,hc9⟩
 refine hK.out _ _ (hc9) (fun hHeld=>?_)
 clear hK K
 try simp only [Act.put,List.setIfInBounds_toArray,List.set_cons_zero,List.set_cons_succ]
 refine tk 12 20 ?_
 refine tk 13 21 ?_
 refine tk 14 6 ?_
 refine tk 15 7 ?_
 refine wpAnyH_done (by kernel_rfl) ?_ _
 have HX:=hid hX
 have HGG:=hid hG
 clear hX hG hc9 hHeld b9 hwr hL2
 go_wp2
 go_ret2
 exact ⟨⟨A,nn,cc,rfl,HX.out⟩,HGG.out⟩
def SetR (J:Vk) (w:World) (s:SuP) (o:Nat->Int) (S:Sh.Sf) (F:Nat->Prop) (D U:Set0) (d k:Nat) (b:Sh.Bs) (y:Int) (w':World):Prop :=
 ∃x S',DW S d (o d) k b y x S'/\RGoes J w w' s (put1 o d x) S' F D U
theorem set_write (h:Vr J w s o S F D U) (hf:Fits J.n J.L s M St S) (hT:Tabs J.W) (hTB:max 0 1+1<=J.B) (st:Nat) (hst:st<St) (d:Nat) (hd:d<J.n) {A:Option Addr} {c m:Nat} {b:Sh.Bs} (hb:Sh.Sec b) (hA:Sh.Beside w (AllV J F) A b) (hL:∀x∈S.disks,x.waits.length<=m) (hm:m<=900000000) (w2:World) (hb2:Below w.heap.size w w2) :
  Calls Tryz.prog 188 #[.pointer (some ⟨J.a d,0,none⟩),.int .i64 (((2+2*J.L:Nat):Int)+(st:Int)),.slice A 128 c] w2 fun e w' =>
   ∃y:Int,e=.returned (.int .i64 y)/\SetR J w s o S F D U d (2+2*J.L+st) b y w'/\w'.cell? ⟨J.v,9,none⟩=some (.int .i64 ((2+2*J.L:Nat):Int)):=by
 have h2:=h.grown hb2
 have e1:((2+2*J.L:Nat):Int)+(st:Int)=((2+2*J.L+st:Nat):Int):=by omega
 rw [e1]
 have hk:2+2*J.L+st<blk S.sectors:=by have:=hf.need;omega
 have hdl:d<S.disks.length:=by rw [hf.len];exact hd
 have hmv:Sh.Moves (AllV J F) w (AllV J F) w2:=moves_grown hb2
 have hA2:Sh.Beside w2 (With F (J.a d)) A b:=beside_disk (K:=J) (hA.moves hmv) hd
 generalize 2+2*J.L+st=k at *
 refine (dwrite (h2.dv hd) hT hTB k hk hdl b (c:=c) hb hA2 hL (by omega)).mono ?_
 rintro e w3 ⟨y,rfl,x,S',hD,hG⟩
 have hG:=h2.goes hd hG
 exact ⟨y,rfl,⟨x,S',hD,RGoes.trans hmv hG⟩,hG.cell9⟩
set_option maxRecDepth 20000 in
set_option maxHeartbeats 800000 in
theorem set_any (h:Vr J w s o S F D U) (hf:Fits J.n J.L s M St S) (hT:Tabs J.W) (hTB:max 0 1+1<=J.B) (st m:Nat) (hst:st<St) (hm:m<M) {A:Option Addr} {c mm:Nat} {b:Sh.Bs} (hb:Sh.Sec b) (hA:Sh.Beside w (AllV J F) A b) (hL:∀x∈S.disks,x.waits.length<=mm) (hmm:mm<=900000000) :
  Calls Tryz.prog 154 #[.pointer (some ⟨J.v,0,none⟩),.int .i64 st,.int .i64 m,.slice A 128 c] w fun e w' =>
   ∃y:Int,e=.returned (.int .i64 y)/\SetR J w s o S F D U (numOf s M st m) (2+2*J.L+st) b y w':=by
 have hd:=hf.num_lt st hm
 have h0:=h.grown (drew_below w)
 have HDO:=hid (diskOf_ok h0.vo.vol hf.mem st m hd)
 generalize numOf s M st m=d at *
 have HV:=hid h0.vo.vol.vlt
 have b9:w.drew.cell? ⟨J.v,9,none⟩=some (.int .i64 ((2+2*J.L:Nat):Int)):=cell_of_row _ _ 9 _ _ _ h0.vo.vol.root
 have HR:=hid (fun w2 (hb2:Below w.drew.heap.size w.drew w2)=>set_write h hf hT hTB st hst d hd (c:=c) hb hA hL hmm w2 ((drew_below w).trans (hb2.mono (Nat.le_refl _))))
 have hbs:2+2*J.L<=18:=by have:=hf.l2;omega
 have hst2:st<1024:=by have:=hf.s2;omega
 generalize 2+2*J.L=bs at *
 have hwr:IntKind.i64.wrap ((bs:Int)+(st:Int))=(bs:Int)+(st:Int):=IntWalk.i64_in _ (by omega)
 have hfd:=field_disk
 clear h h0 hf hT hTB hst hm hd hA hb hL hmm
 go_enter Tryz.func154,Tryz.ntmps154
 go_wp2
 refine wp_region_held_drew (S:=fun (W':World)=>W'.cell? ⟨J.v,9,none⟩=some (.int .i64 (bs:Int))) (by kernel_rfl) b9 (fun hHeld=>?_)
 refine tk 0 9 ?_
 refine tk 1 10 ?_
 refine tk 2 11 ?_
 refine tk 5 14 ?_
 refine tk 6 15 ?_
 refine tk 7 16 ?_
 refine tk 8 17 ?_
 refine tk 9 18 ?_
 refine tk 10 19 ?_
 refine tk 11 20 ?_
 refine r1 3 (some 12) fun K hK=>?_
 go_simp
 refine (HDO.out).mono ?_
 rintro e w2 ⟨rfl,hb2⟩
 refine hK.out _ _ ((hb2.cell (p:=⟨J.v,9,none⟩) HV.out).trans hHeld) (fun hHeld=>?_)
 clear hK K
 try simp only [Act.put,List.setIfInBounds_toArray,List.set_cons_zero,List.set_cons_succ]
 have hL2:=hid (HR.out w2 hb2)
 refine tk 4 13 ?_
 refine r1 12 (some 21) fun K hK=>?_
 go_simp
 refine (hL2.out).mono ?_
 rintro e w3 ⟨y,rfl,hG,hc9⟩
 refine hK.out _ _ (hc9) (fun hHeld=>?_)
 clear hK K
 try simp only [Act.put,List.setIfInBounds_toArray,List.set_cons_zero,List.set_cons_succ]
 refine tk 13 8 ?_
 refine wpAnyH_done (by kernel_rfl) ?_ _
 have HGG:=hid hG
 clear hG hc9 hHeld b9 hwr hL2
 go_wp2
 go_ret
 exact ⟨y,rfl,HGG.out⟩
end
theorem bytes_own {w0 w:World} {base f:Nat} {E:Option Addr} {l:Sh.Bs} (h:w.ownsRow base 5 1 (.slice E 128 f) 128 (bts l)) (hb:w0.heap.size<=base):Sh.Bytes w0 w E l:=by
 obtain ⟨E2,c2,he,hr,_⟩:=own_shape h
 injection he with he _ _
 subst he
 refine ⟨hr,fun a ha=>?_⟩
 subst ha
 rcases h.2 with ⟨h1,_⟩ | ⟨g,cap,cur,hv,hg,_⟩
 ·cases h1
 ·injection hv with hv _ _
  injection hv with hv
  subst hv
  refine ⟨Nat.le_trans hb hg,fun j _=>?_⟩
  have e:(⟨g,0,none⟩:Addr).add j=⟨g,j,none⟩:=by unfold Addr.add;split<;>simp_all
  rw [e]
  exact h.frozenAt j
theorem tab_noughts (f:Nat->Nat):tabTo f 128 0=Sh.noughts:=by
 unfold tabTo Sh.noughts
 simp [List.map_const']
section
variable {J:Vk} {w w':World} {s:SuP} {o:Nat->Int} {S:Sh.Sf} {F:Nat->Prop} {D U:Set0} {M St:Nat}
def TogRel (J:Vk) (w:World) (s:SuP) (o:Nat->Int) (S:Sh.Sf) (F:Nat->Prop) (D U:Set0) (M k st:Nat) (tk:Nat->Bool) (j:Nat) (v:Value) (wr:World):Prop :=
 (tog s M k st tk S j).2.2=0/\Sh.Sec (tog s M k st tk S j).2.1/\∃A c,v=.slice A 128 c/\Sh.Bytes w wr A (tog s M k st tk S j).2.1/\RStay J w wr s o (tog s M k st tk S j).1 F D U
theorem Vr.sec (h:Vr J w s o S F D U) {d n:Nat} (hd:d<S.disks.length) (hn:n<S.sectors):Sh.Sec (V S d n):=V_sec h.vo.ds.on.shelf hd hn
theorem bytes_stay (h:Vr J w s o S F D U) {wr w2:World} {A:Option Addr} {l:Sh.Bs} (hb:Sh.Bytes w wr A l) (ho:Sh.Only (AllV J F) wr w2):Sh.Bytes w w2 A l :=
 bytes_only hb (fun a ha e=>by
  have h1:=(hb.2 a ha).1
  have h2:=h.lt _ e
  omega) ho
set_option maxRecDepth 20000 in
set_option maxHeartbeats 1600000 in
theorem together_any (h:Vr J w s o S F D U) (hf:Fits J.n J.L s M St S) (hT:Tabs J.W) (hTB:max 0 1+1<=J.B) (st:Nat) (hst:st<St) (tk:Nat->Bool) (fk:Nat) (caps:Array Value) (hen:∀(args:Array Value) (w:World),(callFunc fk args).run Tryz.prog w=.ok (.enter fk args) w)
  (hc:∀(m:Nat) (w1:World),m<M->Sh.Only (AllV J F) w w1->Calls Tryz.prog fk (#[.int .i64 m]++caps) w1 fun e w2=>e=.returned (.bool (tk m))/\w1=w2) :
  Calls Tryz.prog 202 #[.pointer (some ⟨J.v,0,none⟩),.int .i64 st,.func (.func fk) #[] caps] w fun e w' =>
   ReadO (tog s M (2+2*J.L+st) st tk S M).2.2 (tog s M (2+2*J.L+st) st tk S M).2.1 w e w'/\RStay J w w' s o (tog s M (2+2*J.L+st) st tk S M).1 F D U:=by
 obtain ⟨i0,hi,hz0,hz1,hz2⟩:=info_parts info_u8
 have c2:=cell_of_row _ _ 2 _ _ _ h.vo.vol.root
 simp only [List.getElem?_toArray,List.getElem?_cons_zero,List.getElem?_cons_succ,hf.mem] at c2
 have HC2:=hid c2
 have HV:=hid h.vo.vol.vlt
 have HH:=hid h
 have HF:=hid hf
 have HC:=hid hc
 have hm16:=hf.m16
 have hlk:∀y:Int,Hid (∀w,Calls Tryz.prog 152 #[.int .i64 y] w fun e w'=>e=.returned (.bool (decide (y=4\/y=5)))/\w=w'):=fun y=>hid (isLacking_any y)
 have HLK:=hid hlk
 clear h hf hc c2 hlk
 generalize hk:2+2*J.L+st=k at *
 have HK:=hid hk
 clear hk
 go_enter Tryz.func202,Tryz.ntmps202
 go_wp2_with (first
  | (at_make;refine wpList_make_full _ rfl _ _ 24 rfl w.heap.size 5 i0 (.int .u8 0) 1 Tryz.underlying24 hi hz0 hz1 _ _ _ _ 128 rfl rfl rfl rfl (by rw [hz2];omega) (by unfold maxLen;omega) (Nat.le_refl _) ?_;intro w0 hown0 hgrow0;have cc2:=(((Below.refl w.heap.size w).grown hgrow0 (Nat.le_refl _) (fun k h=>by cases h)).cell (p:=⟨J.v,2,none⟩) HV.out).trans HC2.out))
 have hb0:Below w.heap.size w w0:=(Below.refl _ _).grown hgrow0 (Nat.le_refl _) (fun k h=>by cases h)
 rw [made_zero fun _=>0,tab_noughts] at hown0
 have hrel0:Hid (TogRel J w s o S F D U M k st tk 0 (.slice (some ⟨w.heap.size,0,none⟩) 128 128) w0):=hid ⟨rfl,Sh.noughts_sec,_,_,rfl,bytes_own hown0 (Nat.le_refl _),RStay.here HH.out hb0⟩
 clear hown0 hgrow0 hb0 cc2 hi hz0 hz1 hz2 HC2 HV
 generalize w.heap.size=g at *
 go_loopw [8,18] (fun v i wr=>∃(j:Nat) (A:Option Addr) (c:Nat),j<=M/\v=.slice A 128 c/\i=.int .i64 j/\Hid (TogRel J w s o S F D U M k st tk j (.slice A 128 c) wr)) (fun _ i _=>M-(intOf i).toNat)
 case atStart=>exact ⟨0,_,_,Nat.zero_le _,rfl,rfl,hrel0⟩
 case round =>
  obtain ⟨j,A,c,hj,rfl,rfl,hrel⟩:=hrel
  by_cases hlt:j<M
  ·have hcl:=hid (HC.out j wr hlt hrel.out.2.2.choose_spec.choose_spec.2.2.2)
   have hS:=hid hrel.out.2.2.choose_spec.choose_spec.2.2
   cases ht:tk j
   ·rw [ht] at hcl
    have HT:=hid ht
    clear ht
    go_wp2_with fail
    refine hcl.out.mono ?_
    rintro e w2 ⟨rfl,rfl⟩
    have HR:Hid (TogRel J w s o S F D U M k st tk (j+1) (.slice A 128 c) wr):=hid (by unfold TogRel;rw [tog_skip HT.out];exact hrel.out)
    clear hcl hrel hrel0 HT hS
    go_wp2
    go_roundw
    case rel=>exact ⟨j+1,A,c,by omega,rfl,by go_num,HR⟩
    case measure=>simp [intOf];omega
   ·rw [ht] at hcl
    have HT:=hid ht
    have HL:=hid (look_any hS.out.1 (HF.out.same (tog_same (s:=s) (M:=M) (k:=k) (st:=st) (tk:=tk) (S:=S) j).len (tog_same (s:=s) (M:=M) (k:=k) (st:=st) (tk:=tk) (S:=S) j).sectors) hT hTB st j hst hlt)
    rw [HK.out] at HL
    clear ht
    go_wp2_with fail
    refine hcl.out.mono ?_
    rintro e w2 ⟨rfl,rfl⟩
    clear hcl
    go_wp2_with fail
    refine HL.out.mono ?_
    rintro e w3 ⟨⟨A3,n3,c3,rfl,hX⟩,hs3⟩
    obtain ⟨h0,hsec,A2,cc,he,hb,_⟩:=hrel.out
    injection he with he _ he2
    subst he he2
    have htk:=tog_take (s:=s) (M:=M) (k:=k) (st:=st) (tk:=tk) (S:=S) h0 HT.out
    have hVs:Sh.Sec (V (tog s M k st tk S j).1 (numOf s M st j) (dataOf k)):=by
     have hf2:=HF.out.same (tog_same (s:=s) (M:=M) (k:=k) (st:=st) (tk:=tk) (S:=S) j).len (tog_same (s:=s) (M:=M) (k:=k) (st:=st) (tk:=tk) (S:=S) j).sectors
     exact hS.out.1.sec (by rw [hf2.len];exact hf2.num_lt st hlt) (sum_of_lt (show k<blk _ by have:=hf2.need;have:=HK.out;omega)).1
    generalize rdY (tog s M k st tk S j).1 (numOf s M st j) k=y at *
    have HB:=hid (bytes_stay HH.out hb hs3.2)
    have HS3:=hid (RStay.trans hS.out.2 hs3)
    have hly:=HLK.out y
    by_cases hy:y=0
    ·subst hy
     obtain ⟨rfl,hX2⟩:n3=128/\Sh.Bytes wr w3 A3 (V (tog s M k st tk S j).1 (numOf s M st j) (dataOf k)):=by
      rcases hX with ⟨_,h1,h2⟩ | ⟨h1,_⟩
      ·exact ⟨h1,h2⟩
      ·exact absurd rfl h1
     have HXR:=hid (rxor_ok A A3 c c3 _ _ w3 hsec.2 hVs.2 HB.out.1 hX2.1)
     rw [if_pos rfl,if_pos rfl] at htk
     have HTK:=hid htk
     have HSC:=hid (xorL_sec hsec hVs)
     have hsz3:w.heap.size<=w3.heap.size:=HS3.out.2.size
     have HZ3:=hid hsz3
     clear hX hX2 hb hsec hVs htk h0 hs3 hrel hrel0 HL hsz3
     go_wp2_with (first
      | (go_at_call 152;refine (hly.out _).mono ?_;rintro e w' ⟨rfl,rfl⟩)
      | (go_at_call 198;refine HXR.out.mono ?_;rintro e w4 ⟨E,f,rfl,hown,hb4⟩))
     have HR:Hid (TogRel J w s o S F D U M k st tk (j+1) (.slice E 128 f) w4):=hid (by
      unfold TogRel
      rw [HTK.out]
      exact ⟨rfl,HSC.out,E,f,rfl,bytes_own hown HZ3.out,RStay.trans HS3.out.2 (RStay.here HS3.out.1 hb4)⟩)
     clear hown hb4 HTK HXR hly
     go_roundw
     case rel=>exact ⟨j+1,E,f,by omega,rfl,by go_num,HR⟩
     case measure=>simp [intOf];omega
    ·rw [if_neg hy,if_neg hy] at htk
     have hne:(tog s M k st tk S (j+1)).2.2≠0:=by
      rw [htk]
      show (if y=4\/y=5 then (10:Int) else y)≠0
      split
      ·decide
      ·exact hy
     have hst2:=tog_stop hne (show j+1<=M from hlt)
     rw [htk] at hst2 hne
     have HST:=hid hst2
     have HNE:=hid hne
     clear hX hb hsec hVs htk h0 hs3 hrel hrel0 HL hst2 hne
     by_cases hl:y=4\/y=5
     ·rw [decide_eq_true hl] at hly
      have HLL:=hid hl
      clear hl hy
      go_wp2_with (go_at_call 152;refine (hly.out _).mono ?_;rintro e w' ⟨rfl,rfl⟩)
      go_ret2
      rw [HST.out]
      exact ⟨⟨none,0,0,by rw [if_pos HLL.out];rfl,.inr ⟨HNE.out,rfl,rfl,rfl⟩⟩,HS3.out⟩
     ·rw [decide_eq_false hl] at hly
      have hq:(y != 0)=true:=by simpa using hy
      have hq2:(y == 0)=false:=by simpa using hy
      have HLL:=hid hl
      clear hl hy
      go_wp2_with (go_at_call 152;refine (hly.out _).mono ?_;rintro e w' ⟨rfl,rfl⟩)
      go_ret2
      rw [HST.out]
      exact ⟨⟨none,0,0,by rw [if_neg HLL.out];rfl,.inr ⟨HNE.out,rfl,rfl,rfl⟩⟩,HS3.out⟩
  ·obtain rfl:j=M:=by omega
   obtain ⟨h0,hsec,A2,c2,he,hb,hs2⟩:=hrel.out
   injection he with he _ he2
   subst he he2
   have H0:=hid h0
   have HB:=hid hb
   have HS:=hid hs2
   clear h0 hsec hb hs2 hrel hrel0
   go_wp2
   go_ret2
   exact ⟨⟨A,128,c,by rw [H0.out];rfl,.inl ⟨H0.out,rfl,HB.out⟩⟩,HS.out⟩
end
theorem enters_is {f : FuncId} {fn : Func} {c : Code} (hf : Tryz.prog.funcs[f]? = some fn) (hname : (fn.name == "runtime.NumGoroutine") = false) (hb : fn.body = some c) (args : Array Value) (w : World) : (callFunc f args).run Tryz.prog w = .ok (.enter f args) w := by
 have h1 : fn.name ≠ "runtime.NumGoroutine" := by simpa using hname
 simp [callFunc,hf,h1,hb,mark]
def tkNot (a:Nat) (m:Nat):Bool:=decide (m≠a)
def tkNeither (a b:Nat) (m:Nat):Bool:=decide (m≠a/\m≠b)
def tkEither (a b:Nat) (m:Nat):Bool:=decide (m=a\/m=b)
theorem cl_should (q a m:Nat) (w:World) (hq:w.cell? ⟨q,0,none⟩=some (.int .i64 (a:Nat))) :
  Calls Tryz.prog 203 #[.int .i64 m,.pointer (some ⟨q,0,none⟩)] w fun e w2=>e=.returned (.bool (tkNot a m))/\w=w2:=by
 unfold tkNot
 by_cases h:m=a
 ·subst h
  rw [decide_eq_false (fun e=>e rfl)]
  go_enter Tryz.func203,Tryz.ntmps203
  go_wp2
  go_ret
  exact ⟨rfl,rfl⟩
 ·have h1:((m:Int) != (a:Int))=true:=by rw [bne_iff_ne];omega
  rw [decide_eq_true h]
  clear h
  go_enter Tryz.func203,Tryz.ntmps203
  go_wp2
  go_ret
  exact ⟨rfl,rfl⟩
theorem cl_other (q r a b m:Nat) (w:World) (hq:w.cell? ⟨q,1,none⟩=some (.int .i64 (a:Nat))) (hr:w.cell? ⟨r,0,none⟩=some (.int .i64 (b:Nat))) :
  Calls Tryz.prog 226 #[.int .i64 m,.pointer (some ⟨q,0,none⟩),.pointer (some ⟨r,0,none⟩)] w fun e w2=>e=.returned (.bool (tkNeither a b m))/\w=w2:=by
 unfold tkNeither
 by_cases h:m=a
 ·subst h
  rw [decide_eq_false (fun e=>e.1 rfl)]
  go_enter Tryz.func226,Tryz.ntmps226
  go_wp2
  go_ret
  exact ⟨rfl,rfl⟩
 ·have h1:((m:Int) != (a:Int))=true:=by rw [bne_iff_ne];omega
  by_cases h2:m=b
  ·subst h2
   rw [decide_eq_false (fun e=>e.2 rfl)]
   clear h
   go_enter Tryz.func226,Tryz.ntmps226
   go_wp2
   go_ret
   exact ⟨rfl,rfl⟩
  ·have h3:((m:Int) != (b:Int))=true:=by rw [bne_iff_ne];omega
   rw [decide_eq_true ⟨h,h2⟩]
   clear h h2
   go_enter Tryz.func226,Tryz.ntmps226
   go_wp2
   go_ret
   exact ⟨rfl,rfl⟩
theorem cl_part (q r a b m:Nat) (w:World) (hq:w.cell? ⟨q,1,none⟩=some (.int .i64 (a:Nat))) (hr:w.cell? ⟨r,0,none⟩=some (.int .i64 (b:Nat))) :
  Calls Tryz.prog 228 #[.int .i64 m,.pointer (some ⟨q,0,none⟩),.pointer (some ⟨r,0,none⟩)] w fun e w2=>e=.returned (.bool (tkEither a b m))/\w=w2:=by
 unfold tkEither
 by_cases h:m=a
 ·subst h
  rw [decide_eq_true (.inl rfl)]
  go_enter Tryz.func228,Tryz.ntmps228
  go_wp2
  go_ret
  exact ⟨rfl,rfl⟩
 ·have h1:((m:Int) == (a:Int))=false:=by rw [beq_eq_false_iff_ne];omega
  by_cases h2:m=b
  ·subst h2
   rw [decide_eq_true (.inr rfl)]
   clear h
   go_enter Tryz.func228,Tryz.ntmps228
   go_wp2
   go_ret
   exact ⟨rfl,rfl⟩
  ·have h3:((m:Int) == (b:Int))=false:=by rw [beq_eq_false_iff_ne];omega
   rw [decide_eq_false (fun e=>e.elim h h2)]
   clear h h2
   go_enter Tryz.func228,Tryz.ntmps228
   go_wp2
   go_ret
   exact ⟨rfl,rfl⟩
section
variable {J:Vk} {w w':World} {s:SuP} {o:Nat->Int} {S:Sh.Sf} {F:Nat->Prop} {D U:Set0} {M St:Nat}
theorem should_any (h:Vr J w s o S F D U) (hf:Fits J.n J.L s M St S) (hT:Tabs J.W) (hTB:max 0 1+1<=J.B) (st a:Nat) (hst:st<St) :
  Calls Tryz.prog 153 #[.pointer (some ⟨J.v,0,none⟩),.int .i64 st,.int .i64 a] w fun e w' =>
   ReadO (tog s M (2+2*J.L+st) st (tkNot a) S M).2.2 (tog s M (2+2*J.L+st) st (tkNot a) S M).2.1 w e w'/\RStay J w w' s o (tog s M (2+2*J.L+st) st (tkNot a) S M).1 F D U:=by
 have hb:Below w.heap.size w (w.alloc (.cells #[.int .i64 a] 3)):=(Below.refl _ _).alloc (Nat.le_refl _) _
 have q0:=heap_alloc_new w (.cells #[.int .i64 a] 3)
 have hlt:w.heap.size<(w.alloc (.cells #[.int .i64 a] 3)).heap.size:=by simp
 have hna:¬AllV J F w.heap.size:=fun e=>Nat.lt_irrefl _ (h.lt _ e)
 have HT:=hid (together_any (h.grown hb) hf hT hTB st hst (tkNot a) 203 #[.pointer (some ⟨w.heap.size,0,none⟩)] (enters_is Tryz.func203 (by kernel_rfl) rfl) (fun m w1 _ ho=>cl_should w.heap.size a m w1 ((ho.cell (p:=⟨w.heap.size,0,none⟩) hlt hna).trans (cell_of_row _ _ 0 _ _ _ q0))))
 have HB:=hid hb
 have hmf:∀(fn:Fn) (first cap:Array Value) (w:World),(Instr.makeFunc fn first cap).run Tryz.prog w=.ok (.func fn first cap) w:=fun _ _ _ _=>rfl
 clear h hf hT hTB hst hb q0 hlt hna
 go_enter Tryz.func153,Tryz.ntmps153
 go_wp2_with fail
 refine HT.out.mono ?_
 rintro e w3 ⟨⟨A,n,c,rfl,hX⟩,hs⟩
 have HX:=hid hX
 have HS:=hid hs
 clear hX hs HT
 go_wp2
 go_ret2
 exact ⟨ReadO.from ⟨A,n,c,rfl,HX.out⟩ HB.out.size,RStay.trans (only_below _ HB.out) HS.out⟩
def spotV (st a pl:Nat):Value:=.agg #[.int .i64 st,.int .i64 a,.int .i64 pl]
set_option maxRecDepth 20000 in
theorem otherData_any (h:Vr J w s o S F D U) (hf:Fits J.n J.L s M St S) (hT:Tabs J.W) (hTB:max 0 1+1<=J.B) (st a pl b:Nat) (hst:st<St) :
  Calls Tryz.prog 197 #[.pointer (some ⟨J.v,0,none⟩),spotV st a pl,.int .i64 b] w fun e w' =>
   ReadO (tog s M (2+2*J.L+st) st (tkNeither a b) S M).2.2 (tog s M (2+2*J.L+st) st (tkNeither a b) S M).2.1 w e w'/\RStay J w w' s o (tog s M (2+2*J.L+st) st (tkNeither a b) S M).1 F D U:=by
 obtain ⟨q0,q1,z0,b0⟩:=two_new' w #[.int .i64 st,.int .i64 a,.int .i64 pl] #[.int .i64 b] 193 3
 have hn0:¬AllV J F w.heap.size:=fun e=>Nat.lt_irrefl _ (h.lt _ e)
 have hn1:¬AllV J F (w.heap.size+1):=fun e=>by have:=h.lt _ e;omega
 have k0:=cell_of_row _ _ 0 _ _ _ q0
 simp only [List.getElem?_toArray,List.getElem?_cons_zero] at k0
 have HT:=hid (together_any (h.grown b0) hf hT hTB st hst (tkNeither a b) 226 #[.pointer (some ⟨w.heap.size,0,none⟩),.pointer (some ⟨w.heap.size+1,0,none⟩)] (enters_is Tryz.func226 (by kernel_rfl) rfl) (fun m w1 _ ho=>cl_other w.heap.size (w.heap.size+1) a b m w1 ((ho.cell (p:=⟨w.heap.size,1,none⟩) (by show w.heap.size<_;omega) hn0).trans (cell_of_row _ _ 1 _ _ _ q0)) ((ho.cell (p:=⟨w.heap.size+1,0,none⟩) (by show w.heap.size+1<_;omega) hn1).trans (cell_of_row _ _ 0 _ _ _ q1))))
 have HB:=hid b0
 have hmf:∀(fn:Fn) (first cap:Array Value) (w:World),(Instr.makeFunc fn first cap).run Tryz.prog w=.ok (.func fn first cap) w:=fun _ _ _ _=>rfl
 unfold spotV
 clear h hf hT hTB hst b0 q0 q1 z0 hn0 hn1
 go_enter Tryz.func197,Tryz.ntmps197
 go_wp2_with fail
 refine HT.out.mono ?_
 rintro e w3 ⟨⟨A,n,c,rfl,hX⟩,hs⟩
 have HX:=hid hX
 have HS:=hid hs
 clear hX hs HT k0
 go_wp2
 go_ret2
 exact ⟨ReadO.from ⟨A,n,c,rfl,HX.out⟩ HB.out.size,RStay.trans (only_below _ HB.out) HS.out⟩
def partR (s:SuP) (M k st a b:Nat) (S:Sh.Sf):Sh.Sf × Sh.Bs × Int :=
 if (tog s M k st (tkNeither a b) S M).2.2≠10 then tog s M k st (tkNeither a b) S M else tog s M k st (tkEither a b) (tog s M k st (tkNeither a b) S M).1 M
theorem partR_same {k st a b:Nat}:Same S (partR s M k st a b S).1:=by
 unfold partR
 split
 ·exact tog_same M
 ·exact (tog_same M).trans (tog_same M)
set_option maxRecDepth 20000 in
theorem part_any (h:Vr J w s o S F D U) (hf:Fits J.n J.L s M St S) (hT:Tabs J.W) (hTB:max 0 1+1<=J.B) (st a pl b:Nat) (hst:st<St) :
  Calls Tryz.prog 199 #[.pointer (some ⟨J.v,0,none⟩),spotV st a pl,.int .i64 b] w fun e w' =>
   ReadO (partR s M (2+2*J.L+st) st a b S).2.2 (partR s M (2+2*J.L+st) st a b S).2.1 w e w'/\RStay J w w' s o (partR s M (2+2*J.L+st) st a b S).1 F D U:=by
 obtain ⟨q0,q1,z0,b0⟩:=two_new' w #[.int .i64 st,.int .i64 a,.int .i64 pl] #[.int .i64 b] 193 3
 have hn0:¬AllV J F w.heap.size:=fun e=>Nat.lt_irrefl _ (h.lt _ e)
 have hn1:¬AllV J F (w.heap.size+1):=fun e=>by have:=h.lt _ e;omega
 have HO:=hid (otherData_any (h.grown b0) hf hT hTB st a pl b hst)
 have HQ:=hid (And.intro q0 q1)
 have HN:=hid (And.intro hn0 hn1)
 have HZ:=hid z0
 have HB:=hid b0
 have HP2:=hid (fun (w2:World) (h2:RStay J ((w.alloc (.cells #[.int .i64 st,.int .i64 a,.int .i64 pl] 193)).alloc (.cells #[.int .i64 b] 3)) w2 s o (tog s M (2+2*J.L+st) st (tkNeither a b) S M).1 F D U)=>together_any h2.1 (hf.same (tog_same (s:=s) (k:=2+2*J.L+st) (st:=st) (tk:=tkNeither a b) (S:=S) M).len (tog_same (s:=s) (k:=2+2*J.L+st) (st:=st) (tk:=tkNeither a b) (S:=S) M).sectors) hT hTB st hst (tkEither a b) 228 #[.pointer (some ⟨w.heap.size,0,none⟩),.pointer (some ⟨w.heap.size+1,0,none⟩)] (enters_is Tryz.func228 (by kernel_rfl) rfl) (fun m w1 _ ho=>by
  have ho2:=h2.2.trans ho (fun _ e=>.inl e)
  exact cl_part w.heap.size (w.heap.size+1) a b m w1 ((ho2.cell (p:=⟨w.heap.size,1,none⟩) (by show w.heap.size<_;omega) hn0).trans (cell_of_row _ _ 1 _ _ _ q0)) ((ho2.cell (p:=⟨w.heap.size+1,0,none⟩) (by show w.heap.size+1<_;omega) hn1).trans (cell_of_row _ _ 0 _ _ _ q1))))
 have hmf:∀(fn:Fn) (first cap:Array Value) (w:World),(Instr.makeFunc fn first cap).run Tryz.prog w=.ok (.func fn first cap) w:=fun _ _ _ _=>rfl
 have hp:Hid (partR s M (2+2*J.L+st) st a b S=if (tog s M (2+2*J.L+st) st (tkNeither a b) S M).2.2≠10 then tog s M (2+2*J.L+st) st (tkNeither a b) S M else tog s M (2+2*J.L+st) st (tkEither a b) (tog s M (2+2*J.L+st) st (tkNeither a b) S M).1 M):=hid rfl
 generalize partR s M (2+2*J.L+st) st a b S=pR at *
 generalize tog s M (2+2*J.L+st) st (tkNeither a b) S M=r1 at *
 obtain ⟨S1,x1,y1⟩:=r1
 simp only at HO HP2 hp
 unfold spotV at *
 have k0:=cell_of_row _ _ 0 _ _ _ q0
 have k1:=cell_of_row _ _ 1 _ _ _ q0
 have k2:=cell_of_row _ _ 2 _ _ _ q0
 have l0:=cell_of_row _ _ 0 _ _ _ q1
 simp only [List.getElem?_toArray,List.getElem?_cons_zero,List.getElem?_cons_succ] at k0 k1 k2 l0
 clear h hf hT hTB hst b0 q0 q1 z0 hn0 hn1
 go_enter Tryz.func199,Tryz.ntmps199
 go_wp2_with fail
 refine HO.out.mono ?_
 rintro e w3 ⟨⟨A,n,c,rfl,hX⟩,hs⟩
 have HX:=hid hX
 have HS:=hid hs
 clear hX hs HO k0 k1 k2 l0
 by_cases h10:y1=10
 ·subst h10
  have HP3:=hid (HP2.out w3 HS.out)
  have k0:w3.cell? ⟨w.heap.size,0,none⟩=some (.int .i64 st):=(HS.out.2.cell (p:=⟨w.heap.size,0,none⟩) (by have:=HZ.out;show w.heap.size<_;omega) HN.out.1).trans (cell_of_row _ _ 0 _ _ _ HQ.out.1)
  rw [if_neg (fun e=>e rfl)] at hp
  go_wp2_with fail
  refine HP3.out.mono ?_
  rintro e w4 ⟨⟨A4,n4,c4,rfl,hX4⟩,hs4⟩
  have HX4:=hid hX4
  have HS4:=hid hs4
  have HP:=hid hp
  clear hX4 hs4 HP3 HP2 k0 hp
  go_wp2
  go_ret2
  rw [HP.out.out]
  exact ⟨ReadO.from ⟨A4,n4,c4,rfl,HX4.out⟩ (Nat.le_trans HB.out.size HS.out.2.size),RStay.trans ((only_below _ HB.out).trans HS.out.2 fun _ e=>.inl e) HS4.out⟩
 ·rw [if_pos h10] at hp
  have hq:(y1 != 10)=true:=by simpa using h10
  have HP:=hid hp
  clear h10 hp HP2
  go_wp2
  go_ret2
  rw [HP.out.out]
  exact ⟨ReadO.from ⟨A,n,c,rfl,HX.out⟩ HB.out.size,RStay.trans (only_below _ HB.out) HS.out⟩
end
def conO (d:Nat) (k:Sh.Dk):Nat->Option Sh.Bs:=fun j=>if goodL d j (at' k (sumOf j)) (at' k (dataOf j))=true then some (at' k (dataOf j)) else none
def valO (d:Nat) (k:Sh.Dk):Nat->Option Sh.Bs:=fun j=>if goodL d j (k.val (sumOf j)) (k.val (dataOf j))=true then some (k.val (dataOf j)) else none
def updO (c:Nat->Option Sh.Bs) (i:Nat) (x:Option Sh.Bs):Nat->Option Sh.Bs:=fun j=>if j=i then x else c j
abbrev Co:=(Nat->Option Sh.Bs)->Prop
def Safe2 (d:Nat) (k:Sh.Dk) (P:Co):Prop:=∀kp:Nat->Bool,P (conO d (k.settle kp))
structure Neat2 (d nb:Nat) (o:Int) (k:Sh.Dk) (P:Co):Prop where
 secs:∀j,j<nb->(at' k (sumOf j)).length=128
 fits:∀j,j<nb->dataOf j<k.sure.length/\sumOf j<k.sure.length
 may:P (conO d k)
 waits:k.waits=[]\/∃i b,i<nb/\o=(i:Int)/\k.waits=[(dataOf i,b)]/\(sumL d i b=pr (at' k (sumOf i)) i 0\/sumL d i b=pr (at' k (sumOf i)) i 1)/\P (updO (conO d k) i (some b))
theorem conO_ext {d:Nat} {k l:Sh.Dk} (h:∀j,goodL d j (at' k (sumOf j)) (at' k (dataOf j))=goodL d j (at' l (sumOf j)) (at' l (dataOf j))/\(goodL d j (at' k (sumOf j)) (at' k (dataOf j))=true->at' k (dataOf j)=at' l (dataOf j))):conO d k=conO d l:=by
 funext j
 obtain ⟨h1,h2⟩:=h j
 unfold conO
 by_cases hg:goodL d j (at' k (sumOf j)) (at' k (dataOf j))=true
 ·rw [if_pos hg,if_pos (h1▸hg),h2 hg]
 ·rw [if_neg hg,if_neg (h1▸hg)]
theorem at_settle_write (k:Sh.Dk) (m:Nat) (X:Sh.Bs) (kp:Nat->Bool) (n:Nat) (hm:m<k.sure.length):at' ((k.write m X).settle kp) n=if kp k.waits.length=true/\m=n then X else at' (k.settle kp) n:=by
 show (Sh.stl kp (k.waits++[(m,X)]) 0 k.sure).getD n []=if _ then _ else (Sh.stl kp k.waits 0 k.sure).getD n []
 rw [Sh.stl_snoc,Nat.zero_add]
 have hl:m<(Sh.stl kp k.waits 0 k.sure).length:=by rw [Sh.stl_length];exact hm
 generalize Sh.stl kp k.waits 0 k.sure=u at *
 by_cases hk:kp k.waits.length=true
 ·rw [if_pos hk]
  by_cases hmn:m=n
  ·subst hmn
   rw [if_pos ⟨hk,rfl⟩]
   simp [List.getD,hl]
  ·rw [if_neg (fun e=>hmn e.2)]
   simp [List.getD,List.getElem?_set_ne hmn]
 ·rw [if_neg hk,if_neg (fun e=>hk e.1)]
section
variable {d nb:Nat} {o o':Int} {k:Sh.Dk} {P P':Co}
theorem conO_nil (h:k.waits=[]) (kp:Nat->Bool):conO d (k.settle kp)=conO d k :=
 conO_ext fun j=>by rw [at_settle_nil h,at_settle_nil h];exact ⟨rfl,fun _=>rfl⟩
theorem conO_one {i:Nat} {b:Sh.Bs} (h:k.waits=[(dataOf i,b)]) (hs:sumL d i b=pr (at' k (sumOf i)) i 0\/sumL d i b=pr (at' k (sumOf i)) i 1) (kp:Nat->Bool) (hm:dataOf i<k.sure.length) :
  conO d (k.settle kp)=if kp 0=true then updO (conO d k) i (some b) else conO d k:=by
 funext j
 unfold conO
 rw [at_settle_one h kp _ hm,at_settle_one h kp _ hm,if_neg (fun e:kp 0=true/\dataOf i=sumOf j=>data_ne_sum i j e.2)]
 by_cases hk:kp 0=true
 ·rw [if_pos hk]
  unfold updO
  by_cases hj:j=i
  ·subst hj
   rw [if_pos (⟨hk,rfl⟩:kp 0=true/\dataOf j=dataOf j),if_pos rfl,if_pos (goodL_of hs)]
  ·rw [if_neg (fun e:kp 0=true/\dataOf i=dataOf j=>hj (dataOf_inj e.2).symm),if_neg hj]
 ·rw [if_neg hk,if_neg (fun e:kp 0=true/\dataOf i=dataOf j=>hk e.1)]
theorem valO_nil (h:k.waits=[]):valO d k=conO d k:=by
 funext j
 unfold valO conO
 rw [val_at h,val_at h]
theorem val_one {m:Nat} {b:Sh.Bs} (h:k.waits=[(m,b)]) (n:Nat):k.val n=if m=n then b else at' k n:=by
 show Sh.latest k.waits n (at' k n)=_
 rw [h]
 rfl
theorem valO_one {i:Nat} {b:Sh.Bs} (h:k.waits=[(dataOf i,b)]) (hs:sumL d i b=pr (at' k (sumOf i)) i 0\/sumL d i b=pr (at' k (sumOf i)) i 1):valO d k=updO (conO d k) i (some b):=by
 funext j
 unfold valO updO
 rw [val_one h,val_one h,if_neg (data_ne_sum i j)]
 by_cases hj:j=i
 ·subst hj
  rw [if_pos rfl,if_pos rfl,if_pos (goodL_of hs)]
 ·rw [if_neg (fun e=>hj (dataOf_inj e).symm),if_neg hj]
  rfl
theorem Neat2.safe (h:Neat2 d nb o k P):Safe2 d k P:=by
 intro kp
 rcases h.waits with hw | ⟨i,b,hi,_,hw,hs,hb⟩
 ·rw [conO_nil hw];exact h.may
 ·rw [conO_one hw hs kp (h.fits i hi).1]
  split
  ·exact hb
  ·exact h.may
theorem Safe2.more (h:Safe2 d k P) (hm:∀c,P c->P' c):Safe2 d k P':=fun kp=>hm _ (h kp)
theorem Neat2.more (h:Neat2 d nb o k P) (hm:∀c,P c->P' c):Neat2 d nb o k P' :=
 ⟨h.secs,h.fits,hm _ h.may,h.waits.imp id fun ⟨i,b,h1,h2,h3,h4,h5⟩=>⟨i,b,h1,h2,h3,h4,hm _ h5⟩⟩
theorem Neat2.now (h:Neat2 d nb o k P):P (valO d k):=by
 rcases h.waits with hw | ⟨i,b,hi,_,hw,hs,hb⟩
 ·rw [valO_nil hw];exact h.may
 ·rw [valO_one hw hs];exact hb
theorem Neat2.con_flush (h:Neat2 d nb o k P):conO d (k.settle (fun _=>true))=valO d k:=by
 rcases h.waits with hw | ⟨i,b,hi,_,hw,hs,hb⟩
 ·rw [conO_nil hw,valO_nil hw]
 ·rw [conO_one hw hs _ (h.fits i hi).1,valO_one hw hs,if_pos rfl]
theorem Neat2.at_sum (h:Neat2 d nb o k P) (kp:Nat->Bool) (j:Nat):at' (k.settle kp) (sumOf j)=at' k (sumOf j):=by
 rcases h.waits with hw | ⟨i,b,hi,_,hw,_,_⟩
 ·exact at_settle_nil hw _ _
 ·rw [at_settle_one hw _ _ (h.fits i hi).1,if_neg (fun e=>data_ne_sum i j e.2)]
theorem Neat2.val_sum (h:Neat2 d nb o k P) (j:Nat):k.val (sumOf j)=at' k (sumOf j):=by
 rcases h.waits with hw | ⟨i,b,hi,_,hw,_,_⟩
 ·exact val_at hw _
 ·rw [val_one hw,if_neg (data_ne_sum i j)]
theorem Neat2.at_data (h:Neat2 d nb o k P) {i:Nat} (hno:k.waits=[]\/o≠(i:Int)) (kp:Nat->Bool):at' (k.settle kp) (dataOf i)=at' k (dataOf i)/\k.val (dataOf i)=at' k (dataOf i):=by
 rcases h.waits with hw | ⟨i',b,hi',ho,hw,_,_⟩
 ·exact ⟨at_settle_nil hw _ _,val_at hw _⟩
 ·rcases hno with hn | hn
  ·rw [hn] at hw;cases hw
  ·have hne:¬dataOf i'=dataOf i:=fun e=>hn (by rw [ho,dataOf_inj e])
   exact ⟨by rw [at_settle_one hw _ _ (h.fits i' hi').1,if_neg (fun e=>hne e.2)],by rw [val_one hw,if_neg hne]⟩
theorem Neat2.flush (h:Neat2 d nb o k P) (o':Int):Neat2 d nb o' (k.settle (fun _=>true)) (fun c=>c=valO d k)/\valO d (k.settle (fun _=>true))=valO d k/\(k.settle (fun _=>true)).waits=[]:=by
 have hlen:(k.settle (fun _=>true)).sure.length=k.sure.length:=Sh.stl_length _ _ _ _
 refine ⟨⟨fun j hj=>by rw [h.at_sum];exact h.secs j hj,fun j hj=>by rw [hlen];exact h.fits j hj,h.con_flush,.inl rfl⟩,(valO_nil rfl).trans h.con_flush,rfl⟩
theorem Neat2.same (h:Neat2 d nb o k P) (m:Nat) (X:Sh.Bs) (hm:m<k.sure.length) (hX:∀j,j<nb->sumOf j=m->X.length=128) (hs:∀kp,conO d ((k.write m X).settle kp)=conO d (k.settle kp)) (o':Int) :
  Safe2 d (k.write m X) P/\Neat2 d nb o' ((k.write m X).settle (fun _=>true)) (fun c=>c=valO d k)/\valO d ((k.write m X).settle (fun _=>true))=valO d k/\(∀n,at' ((k.write m X).settle (fun _=>true)) n=if m=n then X else at' (k.settle (fun _=>true)) n):=by
 have hlen:((k.write m X).settle (fun _=>true)).sure.length=k.sure.length:=Sh.stl_length _ _ _ _
 have hat:∀n,at' ((k.write m X).settle (fun _=>true)) n=if m=n then X else at' (k.settle (fun _=>true)) n:=fun n=>by
  rw [at_settle_write k m X _ n hm]
  by_cases e:m=n
  ·rw [if_pos ⟨rfl,e⟩,if_pos e]
  ·rw [if_neg (fun h=>e h.2),if_neg e]
 have hc:conO d ((k.write m X).settle (fun _=>true))=valO d k:=(hs _).trans h.con_flush
 refine ⟨fun kp=>by rw [hs kp];exact h.safe kp,⟨fun j hj=>?_,fun j hj=>by rw [hlen];exact h.fits j hj,hc,.inl rfl⟩,(valO_nil rfl).trans hc,hat⟩
 rw [hat]
 by_cases e:m=sumOf j
 ·rw [if_pos e];exact hX j hj e.symm
 ·rw [if_neg e,h.at_sum];exact h.secs j hj
theorem Neat2.con_sums (h:Neat2 d nb o k P) (i:Nat) (hi:i<nb) (hno:k.waits=[]\/o≠(i:Int)) (x y:Nat)
  (hx:goodL d i (setPair (at' k (sumOf i)) i x y) (at' k (dataOf i))=goodL d i (at' k (sumOf i)) (at' k (dataOf i))) (kp:Nat->Bool):conO d ((k.write (sumOf i) (setPair (at' k (sumOf i)) i x y)).settle kp)=conO d (k.settle kp):=by
 refine conO_ext fun j=>?_
 rw [at_settle_write k _ _ kp (dataOf j) (h.fits i hi).2,at_settle_write k _ _ kp (sumOf j) (h.fits i hi).2]
 rw [if_neg (fun e:kp k.waits.length=true/\sumOf i=dataOf j=>data_ne_sum j i e.2.symm)]
 refine ⟨?_,fun _=>rfl⟩
 by_cases hc:kp k.waits.length=true/\sumOf i=sumOf j
 ·rw [if_pos hc,h.at_sum,<- hc.2]
  by_cases hij:j=i
  ·subst hij
   rw [(h.at_data hno kp).1]
   exact hx
  ·rw [goodL_other (h.secs i hi) (sumOf_eq hc.2.symm hij)]
 ·rw [if_neg hc]
theorem Neat2.con_spoil (h:Neat2 d nb o k P) (i:Nat) (hi:i<nb) (hno:k.waits=[]\/o≠(i:Int)) (b:Sh.Bs)
  (h0:goodL d i (at' k (sumOf i)) (at' k (dataOf i))=false) (h1:goodL d i (at' k (sumOf i)) b=false) (kp:Nat->Bool):conO d ((k.write (dataOf i) b).settle kp)=conO d (k.settle kp):=by
 refine conO_ext fun j=>?_
 rw [at_settle_write k _ _ kp (dataOf j) (h.fits i hi).1,at_settle_write k _ _ kp (sumOf j) (h.fits i hi).1]
 rw [if_neg (fun e:kp k.waits.length=true/\dataOf i=sumOf j=>data_ne_sum i j e.2),h.at_sum]
 by_cases hc:kp k.waits.length=true/\dataOf i=dataOf j
 ·rw [if_pos hc]
  obtain rfl:=dataOf_inj hc.2
  rw [(h.at_data hno kp).1,h0,h1]
  exact ⟨rfl,fun e=>Bool.noConfusion e⟩
 ·rw [if_neg hc]
  exact ⟨rfl,fun _=>rfl⟩
theorem Neat2.data (h:Neat2 d nb o k P) (hw:k.waits=[]) (i:Nat) (hi:i<nb) (b:Sh.Bs) (ho:o'=(i:Int)) (hs:sumL d i b=pr (at' k (sumOf i)) i 0\/sumL d i b=pr (at' k (sumOf i)) i 1) :
  Neat2 d nb o' (k.write (dataOf i) b) (fun c=>P c\/c=updO (valO d k) i (some b))/\valO d (k.write (dataOf i) b)=updO (valO d k) i (some b):=by
 have hwt:(k.write (dataOf i) b).waits=[(dataOf i,b)]:=by show k.waits++[(dataOf i,b)]=_;rw [hw];rfl
 have hc:conO d (k.write (dataOf i) b)=conO d k:=rfl
 have hs2:sumL d i b=pr (at' (k.write (dataOf i) b) (sumOf i)) i 0\/sumL d i b=pr (at' (k.write (dataOf i) b) (sumOf i)) i 1:=hs
 have hv:=valO_one (d:=d) hwt hs2
 rw [hc,<- valO_nil hw] at hv
 refine ⟨⟨h.secs,h.fits,.inl h.may,.inr ⟨i,b,hi,ho,hwt,hs,.inr ?_⟩⟩,hv⟩
 rw [hc,valO_nil hw]
end
structure Jp2 (S:Sh.Sf) (d:Nat) (o:Int) (P:Co):Prop where
 one:One S d
 safe:Safe2 d (dk S d) P
 neat:S.off=false->Neat2 d (blk S.sectors) o (dk S d) P
def vo (S:Sh.Sf) (d:Nat):Nat->Option Sh.Bs:=valO d (dk S d)
section
variable {S S':Sh.Sf} {d k:Nat} {o o' y:Int} {P P':Co} {b:Sh.Bs}
theorem vo_eq (S:Sh.Sf) (d j:Nat):vo S d j=if goodAt S d j=true then some (V S d (dataOf j)) else none:=rfl
theorem Jp2.of (h1:One S d) (h2:Neat2 d (blk S.sectors) o (dk S d) P):Jp2 S d o P:=⟨h1,h2.safe,fun _=>h2⟩
theorem Jp2.over (h1:One S d) (h2:Safe2 d (dk S d) P) (hoff:S.off≠false) (o':Int):Jp2 S d o' P:=⟨h1,h2,fun e=>absurd e hoff⟩
theorem Jp2.more (h:Jp2 S d o P) (hm:∀c,P c->P' c):Jp2 S d o P':=⟨h.one,h.safe.more hm,fun e=>(h.neat e).more hm⟩
theorem Jp2.now (h:Jp2 S d o P) (hon:S.off=false):P (vo S d):=(h.neat hon).now
def NoBlank (S:Sh.Sf) (d k:Nat) (b:Sh.Bs):Prop :=
 goodAt S d k=false->sumL d k b≠0/\(sumL d k (V S d (dataOf k))=sumL d k b->pr (V S d (sumOf k)) k 0≠0)
theorem noBlank_good (h:vo S d k≠none) (b:Sh.Bs):NoBlank S d k b:=fun e=>by
 rw [vo_eq,e] at h
 exact absurd rfl h
theorem goodL_pair {sec D:Sh.Bs} {x y:Nat} (hl:sec.length=128) (hx:x<4294967296) (hy:y<4294967296):goodL d k (setPair sec k x y) D=goodB (sumL d k D) x y D:=by
 unfold goodL
 rw [pr_set_0 hl hx,pr_set_1 hl hy]
theorem Jp2.ready (h:Jp2 S d o P) (hon:S.off=false) (hk:k<blk S.sectors) (b':Sh.Bs) (hb:Small b) (hv:Small (V S d (dataOf k))) (hz:NoBlank S d k b)
  (hsp:Sh.why (flIf (Looked S d) d o k) d=0/\goodAt S d k=false/\sumL d k (V S d (dataOf k))=sumL d k b->¬(sumL d k b'=pr (V S d (sumOf k)) k 0\/sumL d k b'=pr (V S d (sumOf k)) k 1\/sumL d k b'=sumL d k (V S d (dataOf k)))) :
  One (Ready S d o k b b') d/\Safe2 d (dk (Ready S d o k b b') d) P/\((Ready S d o k b b').off=false->Neat2 d (blk S.sectors) (-1) (dk (Ready S d o k b b') d) (fun c=>c=vo S d)/\vo (Ready S d o k b b') d=vo S d/\(dk (Ready S d o k b b') d).waits=[]/\sumL d k b=pr (at' (dk (Ready S d o k b b') d) (sumOf k)) k 1):=by
 have hn:=h.neat hon
 have ha:One (Looked S d) d:=h.one.looked
 have hda:dk (Looked S d) d=dk S d:=dk_looked S d d
 have hwa:Sh.why (Looked S d) d=0:=by rw [looked_why];exact h.one.why0.mpr hon
 have hgd:goodAt S d k=goodL d k (V S d (sumOf k)) (V S d (dataOf k)):=rfl
 unfold NoBlank at hz
 unfold Ready ReadyQ
 rw [hgd] at hsp hz ⊢
 -- the block that waits is not this one
 obtain ⟨S1,hS1,o1,hse,n1,hv1,e1,e2,hnow⟩:∃S1,flIf (Looked S d) d o k=S1/\One S1 d/\S1.sectors=S.sectors/\(∃o1,Neat2 d (blk S.sectors) o1 (dk S1 d) P/\((dk S1 d).waits=[]\/o1≠(k:Int)))/\valO d (dk S1 d)=vo S d/\V S d (sumOf k)=at' (dk S1 d) (sumOf k)/\V S d (dataOf k)=at' (dk S1 d) (dataOf k)/\P (vo S d):=by
  refine ⟨_,rfl,?_⟩
  have hvs:V S d (sumOf k)=at' (dk S d) (sumOf k):=hn.val_sum k
  unfold flIf
  by_cases hko:(k:Int)=o
  ·rw [if_pos hko]
   have hf:dk (Fl (Looked S d) d) d=(dk S d).settle (fun _=>true):=by rw [ha.dk_fl hwa,hda]
   obtain ⟨q1,q2,q3⟩:=hn.flush o
   rw [hf]
   refine ⟨ha.fl,by rw [fl_sectors,looked_sectors],⟨o,q1.more (fun c e=>by rw [e];exact hn.now),.inl rfl⟩,q2,?_,?_,hn.now⟩
   ·rw [hn.at_sum];exact hvs
   ·rw [<- val_at (k:=(dk S d).settle (fun _=>true)) rfl,val_settle _ _ (hn.fits k hk).1]
    rfl
  ·rw [if_neg hko,hda]
   exact ⟨ha,looked_sectors S d,⟨o,hn,.inr fun e=>hko e.symm⟩,rfl,hvs,(hn.at_data (.inr fun e=>hko e.symm) (fun _=>true)).2,hn.now⟩
 rw [hS1] at hsp ⊢
 rw [e1,e2] at hsp hz ⊢
 rw [e2] at hv
 generalize vo S d=vs at *
 rw [<- hse] at hk n1 ⊢
 clear hgd e1 e2 hS1 ha hda hwa hn hon h hse
 -- a bad block that has the new sum gets other bytes
 obtain ⟨S2,hS2,o2,hse2,s2,n2⟩:∃S2,spIf S1 d k (goodL d k (at' (dk S1 d) (sumOf k)) (at' (dk S1 d) (dataOf k))) (sumL d k (at' (dk S1 d) (dataOf k))) (sumL d k b) b'=S2/\One S2 d/\S2.sectors=S1.sectors/\Safe2 d (dk S2 d) P /\
   (S2.off=false->∃o2,Neat2 d (blk S1.sectors) o2 (dk S2 d) P/\((dk S2 d).waits=[]\/o2≠(k:Int))/\valO d (dk S2 d)=vs/\at' (dk S2 d) (sumOf k)=at' (dk S1 d) (sumOf k)/\goodL d k (at' (dk S1 d) (sumOf k)) (at' (dk S2 d) (dataOf k))=goodL d k (at' (dk S1 d) (sumOf k)) (at' (dk S1 d) (dataOf k)) /\
    goodL d k (setPair (at' (dk S1 d) (sumOf k)) k (first (goodL d k (at' (dk S1 d) (sumOf k)) (at' (dk S1 d) (dataOf k))) (sumL d k (at' (dk S1 d) (dataOf k))) (sumL d k b)) (sumL d k b)) (at' (dk S2 d) (dataOf k))=goodL d k (at' (dk S1 d) (sumOf k)) (at' (dk S1 d) (dataOf k))):=by
  obtain ⟨o0,n1,hno⟩:=n1
  refine ⟨_,rfl,?_⟩
  have hsl:=n1.secs k hk
  have hsb:=sumL_lt (d:=d) (k:=k) hb
  have hsv:=sumL_lt (d:=d) (k:=k) hv
  unfold spIf
  by_cases hg:goodL d k (at' (dk S1 d) (sumOf k)) (at' (dk S1 d) (dataOf k))=false/\sumL d k (at' (dk S1 d) (dataOf k))=sumL d k b
  ·rw [if_pos hg]
   obtain ⟨hg0,hg1⟩:=hg
   obtain ⟨hz0,hz1⟩:=hz hg0
   by_cases w1:Sh.why S1 d=0
   ·have hq:=hsp ⟨w1,hg0,hg1⟩
    have hbad:goodL d k (at' (dk S1 d) (sumOf k)) b'=false:=by
     unfold goodL goodB
     simp only [Bool.or_eq_false_iff,decide_eq_false_iff_not,Bool.and_eq_false_iff]
     exact ⟨fun e=>hq (.inl e),fun e=>hq (.inr (.inl e)),.inl fun e=>hz1 hg1 e.1⟩
    have hcs:=fun kp=>n1.con_spoil k hk hno b' hg0 hbad kp
    obtain ⟨t1,t2,t3,t4⟩:=n1.same (dataOf k) b' (n1.fits k hk).1 (fun j _ e=>absurd e.symm (data_ne_sum k j)) hcs (-1)
    have ow:=o1.wr (dataOf k) b'
    have dw:=o1.dk_wr (dataOf k) b' w1
    rw [<- dw] at t1 t2 t3 t4
    have zw:=wr_sectors S1 d (dataOf k) b'
    generalize Wr S1 d (dataOf k) b'=T at *
    by_cases w2:Sh.why T d=0
    ·have of:=ow.fl
     have df:=ow.dk_fl w2
     rw [<- df] at t2 t3 t4
     refine ⟨of,(fl_sectors T d).trans zw,t2.safe.more (fun c e=>by rw [e,hv1];exact hnow),fun _=>⟨-1,t2.more (fun c e=>by rw [e,hv1];exact hnow),.inl (by rw [df];rfl),t3.trans hv1,?_,?_,?_⟩⟩
     ·rw [t4,if_neg (data_ne_sum k k),n1.at_sum]
     ·rw [t4,if_pos rfl,hg0,hbad]
     ·rw [t4,if_pos rfl,hg0,goodL_pair hsl (by unfold first;simpa using hsb) hsb]
      unfold goodB first
      simp only [Bool.or_eq_false_iff,decide_eq_false_iff_not,Bool.and_eq_false_iff]
      refine ⟨?_,?_,.inl ?_⟩
      ·simp only [Bool.false_eq_true,if_false]
       exact fun e=>hq (.inr (.inr (e.trans hg1.symm)))
      ·exact fun e=>hq (.inr (.inr (e.trans hg1.symm)))
      ·exact fun e=>hz0 e.2
    ·rw [fl_why w2]
     exact ⟨ow,zw,t1,fun e=>absurd (ow.why0.mpr e) w2⟩
   ·rw [wr_why w1,fl_why w1]
    exact ⟨o1,rfl,n1.safe,fun e=>absurd (o1.why0.mpr e) w1⟩
  ·rw [if_neg hg]
   refine ⟨o1,rfl,n1.safe,fun _=>⟨o0,n1,hno,hv1,rfl,rfl,?_⟩⟩
   cases hg2:goodL d k (at' (dk S1 d) (sumOf k)) (at' (dk S1 d) (dataOf k))
   ·obtain ⟨hz0,_⟩:=hz hg2
    have hne:¬sumL d k (at' (dk S1 d) (dataOf k))=sumL d k b:=fun e=>hg ⟨hg2,e⟩
    rw [goodL_pair hsl (by unfold first;simpa using hsb) hsb]
    unfold goodB first
    simp only [Bool.or_eq_false_iff,decide_eq_false_iff_not,Bool.and_eq_false_iff]
    exact ⟨by simpa using hne,hne,.inl fun e=>hz0 e.2⟩
   ·refine goodL_of (.inl ?_)
    unfold first
    rw [if_pos rfl,pr_set_0 hsl hsv]
 rw [hS2]
 clear hS2 hsp hz
 by_cases w2:Sh.why S2 d=0
 ·obtain ⟨o0,n2,hno,hv2,a1,a2,a3⟩:=n2 (o2.why0.mp w2)
  rw [<- a1] at a2 a3 ⊢
  have hgg:goodL d k (at' (dk S1 d) (sumOf k)) (at' (dk S1 d) (dataOf k))=goodL d k (at' (dk S2 d) (sumOf k)) (at' (dk S2 d) (dataOf k)):=by rw [a2,a1]
  have hsl:=n2.secs k hk
  generalize hfi:first (goodL d k (at' (dk S2 d) (sumOf k)) (at' (dk S1 d) (dataOf k))) (sumL d k (at' (dk S1 d) (dataOf k))) (sumL d k b)=fi at *
  have hcs:=fun kp=>n2.con_sums k hk hno fi (sumL d k b) (by rw [a3,a2]) kp
  have hp:=pr_set_1 (k:=k) (x:=fi) hsl (sumL_lt (d:=d) (k:=k) hb)
  obtain ⟨t1,t2,t3,t4⟩:=n2.same (sumOf k) (setPair (at' (dk S2 d) (sumOf k)) k fi (sumL d k b)) (n2.fits k hk).2 (fun j _ _=>setPair_length hsl) hcs (-1)
  generalize setPair (at' (dk S2 d) (sumOf k)) k fi (sumL d k b)=X at *
  have ow:=o2.wr (sumOf k) X
  have dw:=o2.dk_wr (sumOf k) X w2
  rw [<- dw] at t1 t2 t3 t4
  have zw:=wr_sectors S2 d (sumOf k) X
  generalize Wr S2 d (sumOf k) X=T at *
  by_cases w3:Sh.why T d=0
  ·have df:=ow.dk_fl w3
   rw [<- df] at t2 t3 t4
   rw [hv2] at t2 t3
   refine ⟨ow.fl,t2.safe.more (fun c e=>by rw [e];exact hnow),fun _=>⟨t2,t3,by rw [df];rfl,?_⟩⟩
   rw [t4,if_pos rfl]
   exact hp.symm
  ·rw [fl_why w3]
   exact ⟨ow,t1,fun e=>absurd (ow.why0.mpr e) w3⟩
 ·rw [wr_why w2,fl_why w2]
  exact ⟨o2,s2,fun e=>absurd (o2.why0.mpr e) w2⟩
end
section
variable {S S':Sh.Sf} {d k:Nat} {o o' y:Int} {P P':Co} {b:Sh.Bs}
theorem One.why_y (h:One S d):Sh.why S d=0\/Sh.why S d=3:=by
 rw [h.why]
 split
 ·exact .inr rfl
 ·exact .inl rfl
theorem Jp2.dw (h:Jp2 S d o P) (hk:k<blk S.sectors) (hb:Small b) (hv:Small (V S d (dataOf k))) (hz:S.off=false->NoBlank S d k b) (hD:DW S d o k b y o' S') :
  Jp2 S' d o' (fun c=>P c\/(S.off=false/\c=updO (vo S d) k (some b)))/\(y=0->vo S' d=updO (vo S d) k (some b))/\(S'.off=false->y=0/\S.off=false)/\(S.off≠false->S'=S/\y=3)/\(y=0\/y=3)/\(y=0->S.off=false):=by
 rcases hD with ⟨hw,rfl,rfl,hS⟩ | ⟨hw,b',R,_,rfl,hsp,hy,ho0,_,rfl⟩
 ·subst hS
  have hoff:S'.off≠false:=fun e=>hw (h.one.why0.mpr e)
  have h3:Sh.why S' d=3:=h.one.why_y.elim (fun e=>absurd e hw) id
  exact ⟨h.more fun c e=>.inl e,fun e=>absurd e hw,fun e=>absurd e hoff,fun _=>⟨rfl,h3⟩,.inr h3,fun e=>absurd e hw⟩
 ·have hon:=h.one.why0.mp hw
  obtain ⟨r1,r2,r3⟩:=h.ready hon hk b' hb hv (hz hon) hsp
  have hse:(Ready S d o k b b').sectors=S.sectors:=ready_sectors S d o k b b'
  have hnow:=h.now hon
  generalize Ready S d o k b b'=R at *
  by_cases w3:Sh.why R d=0
  ·obtain ⟨t1,t2,t3,t4⟩:=r3 (r1.why0.mp w3)
   rw [w3] at hy
   subst hy
   obtain ⟨hq,hqv⟩:=t1.data t3 k hk b (ho0 rfl) (.inr t4)
   rw [<- r1.dk_wr (dataOf k) b w3] at hq hqv
   have hqv2:vo (Wr R d (dataOf k) b) d=updO (vo S d) k (some b):=by
    rw [<- t2];exact hqv
   refine ⟨Jp2.of (r1.wr _ _) ?_,fun _=>hqv2,fun _=>⟨rfl,hon⟩,fun e=>absurd hon e,.inl rfl,fun _=>hon⟩
   rw [wr_sectors,hse]
   refine hq.more fun c hc=>hc.imp (fun e=>by rw [e];exact hnow) fun e=>⟨hon,?_⟩
   rw [e,<- t2]
   rfl
  ·rw [wr_why w3]
   have hoff:R.off≠false:=fun e=>w3 (r1.why0.mpr e)
   have h3:y=3:=by rw [hy];exact r1.why_y.elim (fun e=>absurd e w3) id
   refine ⟨Jp2.over r1 (r2.more fun c e=>.inl e) hoff o',fun e=>?_,fun e=>absurd e hoff,fun e=>absurd hon e,.inr h3,fun _=>hon⟩
   rw [h3] at e
   exact absurd e (by decide)
theorem Jp2.fl (h:Jp2 S d o P) (hon:S.off=false) (o':Int):Jp2 (Fl S d) d o' (fun c=>c=vo S d)/\vo (Fl S d) d=vo S d/\(dk (Fl S d) d).waits=[]:=by
 have hw:=h.one.why0.mpr hon
 obtain ⟨h1,h2,h3⟩:=(h.neat hon).flush o'
 rw [<- h.one.dk_fl hw] at h1 h2 h3
 refine ⟨Jp2.of h.one.fl ?_,h2,h3⟩
 rw [fl_sectors]
 exact h1
theorem Jp2.fl_off (h:Jp2 S d o P) (hoff:S.off≠false):Fl S d=S:=fl_why fun e=>hoff (h.one.why0.mp e)
theorem Jp2.off_any (h:Jp2 S d o P) (hoff:S.off≠false) (o':Int):Jp2 S d o' P:=Jp2.over h.one h.safe hoff o'
theorem Jp2.dk_same (h:Jp2 S d o P) (hd:dk S' d=dk S d) (hl:S'.disks.length=S.disks.length) (hs:S'.sectors=S.sectors) (ho:S'.off=false->S.off=false):Jp2 S' d o P :=
 ⟨⟨by rw [hl];exact h.one.lt,by rw [hd];exact h.one.alive,by rw [hd,hs];exact h.one.len⟩,by rw [hd];exact h.safe,fun e=>by rw [hd,hs];exact h.neat (ho e)⟩
theorem Jp2.alike {e:Nat} (h:Jp2 S d o P) (ha:Alike e S S') (hs:S'.sectors=S.sectors) (ho:S'.off=false->S.off=false) (hne:d≠e):Jp2 S' d o P :=
 h.dk_same (ha.2 d hne) ha.1 hs ho
theorem Jp2.same (h:Jp2 S d o P) (hs:Same S S'):Jp2 S' d o P :=
 h.dk_same (by unfold dk;rw [hs.disks]) (by rw [hs.disks]) hs.sectors (fun e=>hs.off.symm.trans e)
theorem vo_dk (hd:dk S' d=dk S d):vo S' d=vo S d:=by unfold vo;rw [hd]
theorem vo_alike {e:Nat} (ha:Alike e S S') (hne:d≠e):vo S' d=vo S d:=vo_dk (ha.2 d hne)
theorem vo_same (hs:Same S S'):vo S' d=vo S d:=vo_dk (by unfold dk;rw [hs.disks])
theorem Jp.jp2 {Q:Cs} (h:Jp S d o Q) (hon:S.off=false) (hw:(dk S d).waits=[]) (o':Int):Jp2 S d o' (fun c=>c=vo S d)/\∀j,j<blk S.sectors->vo S d j=some (vals (dk S d) j):=by
 have hn:=h.neat hon
 refine ⟨Jp2.of h.one ⟨hn.secs,hn.fits,(valO_nil hw).symm,.inl hw⟩,fun j hj=>?_⟩
 rw [vo_eq,if_pos (h.good hon j hj)]
 rfl
end
end Go.Proofs.YtcnjpmcelihknaaGreatDoor.U
