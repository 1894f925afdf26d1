/-
  What the statement's proof rests on, part 26.
  Conditions: each theorem's own.
-/
import Derived.Test.YthhldceidmphfaaGreatDoorF25
import Derived.Test.YthhldceidmphfaaGreatDoorFtk
namespace Go.Proofs.YthhldceidmphfaaGreatDoor.U
open Go.RowKit Go.Maps
theorem info_rdsz:(Tryz.prog.info? 109).map (·.size)=some 2:=by kernel_rfl
set_option maxRecDepth 20000 in
theorem load_disk {w:World} {g:Nat} {v0 v1:Value} (h:w.heap[g]?=some (.cells #[v0,v1] 109 (0,0))):(loadVar 109 ⟨g,0,none⟩).run Tryz.prog w=.ok (.agg #[v0,v1]) w :=
 run_loadVar_row (P:=Tryz.prog) _ g 109 109 _ (0,0) _ h Tryz.underlying109 rfl info_rdsz
theorem field_disk (x y:Value) (w:World):(Instr.field 109 (.agg #[x,y]) 0).run Tryz.prog w=.ok x w:=by kernel_rfl
theorem drew_below (w:World):Below w.heap.size w w.drew:=⟨rfl,rfl,rfl,Nat.le_refl _,fun _ _=>rfl⟩
section
variable {w:World} {v p t n mo mu:Nat} {s:Go.Proofs.YthhldceidmphfaaGreatDoor.S.Sup} {base:Int} {a:Nat→Nat} {g:Nat→Option Addr}
set_option maxRecDepth 20000 in
theorem diskOf_ok (h:VolIs w v p t n mo mu s base a g) {M:Nat} (hm:s.mem=(M:Int)) (st m:Nat) (hd:numOf s M st m<n) :
  Calls Tryz.prog 65 #[.pointer (some ⟨v,0,none⟩),.int .i64 st,.int .i64 m] w fun e w'=>e=.returned (.agg #[.pointer (some ⟨a (numOf s M st m),0,none⟩),.pointer (g (numOf s M st m))])∧Below w.heap.size w w':=by
 have hb0:Below w.heap.size w (w.alloc (.cells #[.pointer none,.pointer none] 109)):=(Below.refl _ _).alloc (Nat.le_refl _) _
 have q0:=heap_alloc_new w (.cells #[.pointer none,.pointer none] 109)
 have V0:=h.kept (hb0.block _ h.vlt) (hb0.block _ h.tlt)
 have HN:=Lib.hid (numberOf_ok (V0.kept (w':=(w.alloc (.cells #[.pointer none,.pointer none] 109)).drew) rfl rfl) hm st m)
 have HV:=Lib.hid (V0.kept (w':=(w.alloc (.cells #[.pointer none,.pointer none] 109)).drew) rfl rfl)
 have HNE:=Lib.hid (And.intro (Nat.ne_of_lt h.vlt) (Nat.ne_of_lt h.tlt))
 have j10:=fun (W':World) (h:VolIs W' v p t n mo mu s base a g)=>h.c10
 have jd0:=fun (W':World) (h:VolIs W' v p t n mo mu s base a g)=>h.dev hd
 have jd1:=fun (W':World) (h:VolIs W' v p t n mo mu s base a g)=>h.log hd
 have HB:=Lib.hid hb0
 have HQ:=Lib.hid (show (w.alloc (.cells #[.pointer none,.pointer none] 109)).drew.heap[w.heap.size]?=_ from q0)
 generalize numOf s M st m=d at *
 clear h hm V0 hb0 q0
 go_enter Tryz.func65,Tryz.ntmps65
 go_wp2
 generalize w.alloc (.cells #[.pointer none,.pointer none] 109)=w0 at *
 refine wp_region_held_drew (S:=fun (W':World)=>VolIs W' v p t n mo mu s base a g) (by kernel_rfl) HV.out (fun hHeld=>?_)
 refine tk 0 7 ?_
 refine tk 1 8 ?_
 refine tk 2 9 ?_
 refine tk 3 10 ?_
 refine tk 4 11 ?_
 refine tk 5 12 ?_
 refine tk 6 13 ?_
 refine r1 7 (some 14) fun K hK=>?_
 go_simp
 refine (HN.out).mono ?_
 rintro e w2 ⟨rfl,rfl⟩
 refine hK.out _ _ (hHeld) (fun hHeld=>?_)
 clear hK K
 try simp only [Act.put,List.setIfInBounds_toArray,List.set_cons_zero,List.set_cons_succ]
 refine tk 8 15 ?_
 refine tk 9 16 ?_
 refine r1 10 none fun K hK=>?_
 rw [if_pos (by rfl)]
 refine wp_store_row 109 _ _ rfl (w.heap.size) (#[.pointer (some ⟨a d,0,none⟩),.pointer (g d)]) rfl rfl 109 _ HQ.out info_rdsz rfl (by simp [Value.oneCell']) ?_
 refine hK.out _ _ (hHeld.kept ((only_setRow _ _ _).block _ hHeld.vlt HNE.out.1) ((only_setRow _ _ _).block _ hHeld.tlt HNE.out.2)) (fun hHeld=>?_)
 clear hK K
 refine wpAnyH_done (by kernel_rfl) ?_ _
 have HLD:=Lib.hid (load_disk (setRow_heap w0.drew _ _ (#[.pointer (some ⟨a d,0,none⟩),.pointer (g d)]) _ _ (show _ from HQ.out)))
 have HE:=Lib.hid (HB.out.trans ((drew_below w0).mono HB.out.size))
 have HE2:=Lib.hid ((only_setRow w0.drew w.heap.size #[.pointer (some ⟨a d,0,none⟩),.pointer (g d)]).below (B:=w.heap.size) (fun b e=>by rw [e];exact Nat.le_refl _) HE.out.size)
 clear j10 jd0 jd1 hHeld
 go_wp2
 exact bodyPost_ret (results_cell (g:=w.heap.size) Tryz.results65 rfl HLD.out) rfl ⟨rfl,HE.out.trans HE2.out⟩
end
section
variable {J:Vk} {w w':World} {s:Go.Proofs.YthhldceidmphfaaGreatDoor.S.Sup} {o:Nat→Int} {S:Sh.Sf} {F:Nat→Prop} {D U:Set0} {M St:Nat}
theorem RGoes.cell9 (h:RGoes J w w' s o S F D U):w'.cell? ⟨J.v,9,none⟩=some (.int .i64 ((2+2*J.L:Nat):Int)):=by
 obtain ⟨F',V,_⟩:=h
 exact cell_of_row _ _ 9 _ _ _ V.vo.vol.root
theorem look_read (h:Vr J w s o S F D U) (hf:Fits J.n J.L s M St S) (hT:Tabs J.W) (hTB:max 1 2+1≤J.B) (st:Nat) (hst:st<St) (d:Nat) (hd:d<J.n) (w2:World) (hb2:Below w.heap.size w w2) :
  Calls Tryz.prog 102 #[.pointer (some ⟨J.a d,0,none⟩),.int .i64 (((2+2*J.L:Nat):Int)+(st:Int))] w2 fun e w' =>
   ReadO (rdY S d (2+2*J.L+st)) (V S d (dataOf (2+2*J.L+st))) w e w'∧RStay J w w' s o (Looked S d) F D U∧w'.cell? ⟨J.v,9,none⟩=some (.int .i64 ((2+2*J.L:Nat):Int)):=by
 have h2:=h.grown hb2
 have e1:((2+2*J.L:Nat):Int)+(st:Int)=((2+2*J.L+st:Nat):Int):=by omega
 rw [e1]
 have hk:2+2*J.L+st<blk S.sectors:=by have:=hf.need;omega
 have hdl:d<S.disks.length:=by rw [hf.len];exact hd
 generalize 2+2*J.L+st=k at *
 refine (dread (h2.dv hd) hT hTB k hk hdl).mono ?_
 rintro e w3 ⟨hX,hD,hO⟩
 have hG:=h2.stays hD hO
 exact ⟨hX.from hb2.size,RStay.trans (only_below _ hb2) hG,hG.goes.cell9⟩
set_option maxRecDepth 20000 in
set_option maxHeartbeats 800000 in
theorem look_any (h:Vr J w s o S F D U) (hf:Fits J.n J.L s M St S) (hT:Tabs J.W) (hTB:max 1 2+1≤J.B) (st m:Nat) (hst:st<St) (hm:m<M) :
  Calls Tryz.prog 57 #[.pointer (some ⟨J.v,0,none⟩),.int .i64 st,.int .i64 m] w fun e w' =>
   ReadO (rdY S (numOf s M st m) (2+2*J.L+st)) (V S (numOf s M st m) (dataOf (2+2*J.L+st))) w e w'∧RStay J w w' s o (Looked S (numOf s M st m)) F D U:=by
 have hd:=hf.num_lt st hm
 have h0:=h.grown (drew_below w)
 have HDO:=Lib.hid (diskOf_ok h0.vo.vol hf.mem st m hd)
 generalize numOf s M st m=d at *
 have HV:=Lib.hid h0.vo.vol.vlt
 have b9:w.drew.cell? ⟨J.v,9,none⟩=some (.int .i64 ((2+2*J.L:Nat):Int)):=cell_of_row _ _ 9 _ _ _ h0.vo.vol.root
 have HR:=Lib.hid (fun w2 (hb2:Below w.drew.heap.size w.drew w2)=>look_read h hf hT hTB st hst d hd w2 ((drew_below w).trans (hb2.mono (Nat.le_refl _))))
 have hbs:2+2*J.L≤18:=by have:=hf.l2;omega
 have hst2:st<1024:=by have:=hf.s2;omega
 generalize 2+2*J.L=bs at *
 have hwr:IntKind.i64.wrap ((bs:Int)+(st:Int))=(bs:Int)+(st:Int):=IntWalk.i64_in _ (by omega)
 have hfd:=field_disk
 clear h h0 hf hT hTB hst hm hd
 go_enter Tryz.func57,Tryz.ntmps57
 go_wp2
 refine wp_region_held_drew (S:=fun (W':World)=>W'.cell? ⟨J.v,9,none⟩=some (.int .i64 (bs:Int))) (by kernel_rfl) b9 (fun hHeld=>?_)
 refine tk 0 8 ?_
 refine tk 1 9 ?_
 refine tk 2 10 ?_
 refine tk 5 13 ?_
 refine tk 6 14 ?_
 refine tk 7 15 ?_
 refine tk 8 16 ?_
 refine tk 9 17 ?_
 refine tk 10 18 ?_
 refine r1 3 (some 11) fun K hK=>?_
 go_simp
 refine (HDO.out).mono ?_
 rintro e w2 ⟨rfl,hb2⟩
 refine hK.out _ _ ((hb2.cell (p:=⟨J.v,9,none⟩) HV.out).trans hHeld) (fun hHeld=>?_)
 clear hK K
 try simp only [Act.put,List.setIfInBounds_toArray,List.set_cons_zero,List.set_cons_succ]
 have hL2:=Lib.hid (HR.out w2 hb2)
 refine tk 4 12 ?_
 refine r1 11 (some 19) fun K hK=>?_
 go_simp
 refine (hL2.out).mono ?_
 rintro e w3 ⟨⟨A,nn,cc,rfl,hX⟩,hG,hc9⟩
 refine hK.out _ _ (hc9) (fun hHeld=>?_)
 clear hK K
 try simp only [Act.put,List.setIfInBounds_toArray,List.set_cons_zero,List.set_cons_succ]
 refine tk 12 20 ?_
 refine tk 13 21 ?_
 refine tk 14 6 ?_
 refine tk 15 7 ?_
 refine wpAnyH_done (by kernel_rfl) ?_ _
 have HX:=Lib.hid hX
 have HGG:=Lib.hid hG
 clear hX hG hc9 hHeld b9 hwr hL2
 go_wp2
 go_ret2
 exact ⟨⟨A,nn,cc,rfl,HX.out⟩,HGG.out⟩
def SetR (J:Vk) (w:World) (s:Go.Proofs.YthhldceidmphfaaGreatDoor.S.Sup) (o:Nat→Int) (S:Sh.Sf) (F:Nat→Prop) (D U:Set0) (d k:Nat) (b:Sh.Bs) (y:Int) (w':World):Prop :=
 ∃x S',DW S d (o d) k b y x S'∧RGoes J w w' s (put1 o d x) S' F D U
theorem set_write (h:Vr J w s o S F D U) (hf:Fits J.n J.L s M St S) (hT:Tabs J.W) (hTB:max 1 2+1≤J.B) (st:Nat) (hst:st<St) (d:Nat) (hd:d<J.n) {A:Option Addr} {c m:Nat} {b:Sh.Bs} (hb:Sh.Sec b) (hA:Sh.Beside w (AllV J F) A b) (hL:∀x∈S.disks,x.waits.length≤m) (hm:m≤900000000) (w2:World) (hb2:Below w.heap.size w w2) :
  Calls Tryz.prog 33 #[.pointer (some ⟨J.a d,0,none⟩),.int .i64 (((2+2*J.L:Nat):Int)+(st:Int)),.slice A 128 c] w2 fun e w' =>
   ∃y:Int,e=.returned (.int .i64 y)∧SetR J w s o S F D U d (2+2*J.L+st) b y w'∧w'.cell? ⟨J.v,9,none⟩=some (.int .i64 ((2+2*J.L:Nat):Int)):=by
 have h2:=h.grown hb2
 have e1:((2+2*J.L:Nat):Int)+(st:Int)=((2+2*J.L+st:Nat):Int):=by omega
 rw [e1]
 have hk:2+2*J.L+st<blk S.sectors:=by have:=hf.need;omega
 have hdl:d<S.disks.length:=by rw [hf.len];exact hd
 have hmv:Sh.Moves (AllV J F) w (AllV J F) w2:=moves_grown hb2
 have hA2:Sh.Beside w2 (With F (J.a d)) A b:=beside_disk (K:=J) (hA.moves hmv) hd
 generalize 2+2*J.L+st=k at *
 refine (dwrite (h2.dv hd) hT hTB k hk hdl b (c:=c) hb hA2 hL (by omega)).mono ?_
 rintro e w3 ⟨y,rfl,x,S',hD,hG⟩
 have hG:=h2.goes hd hG
 exact ⟨y,rfl,⟨x,S',hD,RGoes.trans hmv hG⟩,hG.cell9⟩
set_option maxRecDepth 20000 in
set_option maxHeartbeats 800000 in
theorem set_any (h:Vr J w s o S F D U) (hf:Fits J.n J.L s M St S) (hT:Tabs J.W) (hTB:max 1 2+1≤J.B) (st m:Nat) (hst:st<St) (hm:m<M) {A:Option Addr} {c mm:Nat} {b:Sh.Bs} (hb:Sh.Sec b) (hA:Sh.Beside w (AllV J F) A b) (hL:∀x∈S.disks,x.waits.length≤mm) (hmm:mm≤900000000) :
  Calls Tryz.prog 60 #[.pointer (some ⟨J.v,0,none⟩),.int .i64 st,.int .i64 m,.slice A 128 c] w fun e w' =>
   ∃y:Int,e=.returned (.int .i64 y)∧SetR J w s o S F D U (numOf s M st m) (2+2*J.L+st) b y w':=by
 have hd:=hf.num_lt st hm
 have h0:=h.grown (drew_below w)
 have HDO:=Lib.hid (diskOf_ok h0.vo.vol hf.mem st m hd)
 generalize numOf s M st m=d at *
 have HV:=Lib.hid h0.vo.vol.vlt
 have b9:w.drew.cell? ⟨J.v,9,none⟩=some (.int .i64 ((2+2*J.L:Nat):Int)):=cell_of_row _ _ 9 _ _ _ h0.vo.vol.root
 have HR:=Lib.hid (fun w2 (hb2:Below w.drew.heap.size w.drew w2)=>set_write h hf hT hTB st hst d hd (c:=c) hb hA hL hmm w2 ((drew_below w).trans (hb2.mono (Nat.le_refl _))))
 have hbs:2+2*J.L≤18:=by have:=hf.l2;omega
 have hst2:st<1024:=by have:=hf.s2;omega
 generalize 2+2*J.L=bs at *
 have hwr:IntKind.i64.wrap ((bs:Int)+(st:Int))=(bs:Int)+(st:Int):=IntWalk.i64_in _ (by omega)
 have hfd:=field_disk
 clear h h0 hf hT hTB hst hm hd hA hb hL hmm
 go_enter Tryz.func60,Tryz.ntmps60
 go_wp2
 refine wp_region_held_drew (S:=fun (W':World)=>W'.cell? ⟨J.v,9,none⟩=some (.int .i64 (bs:Int))) (by kernel_rfl) b9 (fun hHeld=>?_)
 refine tk 0 9 ?_
 refine tk 1 10 ?_
 refine tk 2 11 ?_
 refine tk 5 14 ?_
 refine tk 6 15 ?_
 refine tk 7 16 ?_
 refine tk 8 17 ?_
 refine tk 9 18 ?_
 refine tk 10 19 ?_
 refine tk 11 20 ?_
 refine r1 3 (some 12) fun K hK=>?_
 go_simp
 refine (HDO.out).mono ?_
 rintro e w2 ⟨rfl,hb2⟩
 refine hK.out _ _ ((hb2.cell (p:=⟨J.v,9,none⟩) HV.out).trans hHeld) (fun hHeld=>?_)
 clear hK K
 try simp only [Act.put,List.setIfInBounds_toArray,List.set_cons_zero,List.set_cons_succ]
 have hL2:=Lib.hid (HR.out w2 hb2)
 refine tk 4 13 ?_
 refine r1 12 (some 21) fun K hK=>?_
 go_simp
 refine (hL2.out).mono ?_
 rintro e w3 ⟨y,rfl,hG,hc9⟩
 refine hK.out _ _ (hc9) (fun hHeld=>?_)
 clear hK K
 try simp only [Act.put,List.setIfInBounds_toArray,List.set_cons_zero,List.set_cons_succ]
 refine tk 13 8 ?_
 refine wpAnyH_done (by kernel_rfl) ?_ _
 have HGG:=Lib.hid hG
 clear hG hc9 hHeld b9 hwr hL2
 go_wp2
 go_ret
 exact ⟨y,rfl,HGG.out⟩
end
theorem bytes_own {w0 w:World} {base f:Nat} {E:Option Addr} {l:Sh.Bs} (h:w.ownsRow base 5 1 (.slice E 128 f) 128 (bts l)) (hb:w0.heap.size≤base):Sh.Bytes w0 w E l:=by
 obtain ⟨E2,c2,he,hr,_⟩:=own_shape h
 injection he with he _ _
 subst he
 refine ⟨hr,fun a ha=>?_⟩
 subst ha
 rcases h.2 with ⟨h1,_⟩ | ⟨g,cap,cur,hv,hg,_⟩
 ·cases h1
 ·injection hv with hv _ _
  injection hv with hv
  subst hv
  refine ⟨Nat.le_trans hb hg,fun j _=>?_⟩
  have e:(⟨g,0,none⟩:Addr).add j=⟨g,j,none⟩:=by unfold Addr.add;split<;>simp_all
  rw [e]
  exact h.frozenAt j
theorem tab_noughts (f:Nat→Nat):tabTo f 128 0=Sh.noughts:=by
 unfold tabTo Sh.noughts
 simp [List.map_const']
section
variable {J:Vk} {w w':World} {s:Go.Proofs.YthhldceidmphfaaGreatDoor.S.Sup} {o:Nat→Int} {S:Sh.Sf} {F:Nat→Prop} {D U:Set0} {M St:Nat}
def TogRel (J:Vk) (w:World) (s:Go.Proofs.YthhldceidmphfaaGreatDoor.S.Sup) (o:Nat→Int) (S:Sh.Sf) (F:Nat→Prop) (D U:Set0) (M k st:Nat) (tk:Nat→Bool) (j:Nat) (v:Value) (wr:World):Prop :=
 (tog s M k st tk S j).2.2=0∧Sh.Sec (tog s M k st tk S j).2.1∧∃A c,v=.slice A 128 c∧Sh.Bytes w wr A (tog s M k st tk S j).2.1∧RStay J w wr s o (tog s M k st tk S j).1 F D U
theorem Vr.sec (h:Vr J w s o S F D U) {d n:Nat} (hd:d<S.disks.length) (hn:n<S.sectors):Sh.Sec (V S d n):=V_sec h.vo.ds.on.shelf hd hn
theorem bytes_stay (h:Vr J w s o S F D U) {wr w2:World} {A:Option Addr} {l:Sh.Bs} (hb:Sh.Bytes w wr A l) (ho:Sh.Only (AllV J F) wr w2):Sh.Bytes w w2 A l :=
 bytes_only hb (fun a ha e=>by
  have h1:=(hb.2 a ha).1
  have h2:=h.lt _ e
  omega) ho
set_option maxRecDepth 20000 in
set_option maxHeartbeats 1600000 in
theorem together_any (h:Vr J w s o S F D U) (hf:Fits J.n J.L s M St S) (hT:Tabs J.W) (hTB:max 1 2+1≤J.B) (st:Nat) (hst:st<St) (tk:Nat→Bool) (fk:Nat) (caps:Array Value) (hen:∀(args:Array Value) (w:World),(callFunc fk args).run Tryz.prog w=.ok (.enter fk args) w)
  (hc:∀(m:Nat) (w1:World),m<M→Sh.Only (AllV J F) w w1→Calls Tryz.prog fk (#[.int .i64 m]++caps) w1 fun e w2=>e=.returned (.bool (tk m))∧w1=w2) :
  Calls Tryz.prog 49 #[.pointer (some ⟨J.v,0,none⟩),.int .i64 st,.func (.func fk) #[] caps] w fun e w' =>
   ReadO (tog s M (2+2*J.L+st) st tk S M).2.2 (tog s M (2+2*J.L+st) st tk S M).2.1 w e w'∧RStay J w w' s o (tog s M (2+2*J.L+st) st tk S M).1 F D U:=by
 obtain ⟨i0,hi,hz0,hz1,hz2⟩:=info_parts info_u8
 have c2:=cell_of_row _ _ 2 _ _ _ h.vo.vol.root
 simp only [List.getElem?_toArray,List.getElem?_cons_zero,List.getElem?_cons_succ,hf.mem] at c2
 have HC2:=Lib.hid c2
 have HV:=Lib.hid h.vo.vol.vlt
 have HH:=Lib.hid h
 have HF:=Lib.hid hf
 have HC:=Lib.hid hc
 have hm16:=hf.m16
 have hlk:∀y:Int,Hid (∀w,Calls Tryz.prog 58 #[.int .i64 y] w fun e w'=>e=.returned (.bool (decide (y=4∨y=5)))∧w=w'):=fun y=>Lib.hid (isLacking_any y)
 have HLK:=Lib.hid hlk
 clear h hf hc c2 hlk
 generalize hk:2+2*J.L+st=k at *
 have HK:=Lib.hid hk
 clear hk
 go_enter Tryz.func49,Tryz.ntmps49
 go_wp2_with (first
  | (at_make;refine wpList_make_full _ rfl _ _ 45 rfl w.heap.size 5 i0 (.int .u8 0) 1 Tryz.underlying45 hi hz0 hz1 _ _ _ _ 128 rfl rfl rfl rfl (by rw [hz2];omega) (by unfold maxLen;omega) (Nat.le_refl _) ?_;intro w0 hown0 hgrow0;have cc2:=(((Below.refl w.heap.size w).grown hgrow0 (Nat.le_refl _) (fun k h=>by cases h)).cell (p:=⟨J.v,2,none⟩) HV.out).trans HC2.out))
 have hb0:Below w.heap.size w w0:=(Below.refl _ _).grown hgrow0 (Nat.le_refl _) (fun k h=>by cases h)
 rw [made_zero fun _=>0,tab_noughts] at hown0
 have hrel0:Hid (TogRel J w s o S F D U M k st tk 0 (.slice (some ⟨w.heap.size,0,none⟩) 128 128) w0):=Lib.hid ⟨rfl,Sh.noughts_sec,_,_,rfl,bytes_own hown0 (Nat.le_refl _),RStay.here HH.out hb0⟩
 clear hown0 hgrow0 hb0 cc2 hi hz0 hz1 hz2 HC2 HV
 generalize w.heap.size=g at *
 go_loopw [8,18] (fun v i wr=>∃(j:Nat) (A:Option Addr) (c:Nat),j≤M∧v=.slice A 128 c∧i=.int .i64 j∧Hid (TogRel J w s o S F D U M k st tk j (.slice A 128 c) wr)) (fun _ i _=>M-(intOf i).toNat)
 case atStart=>exact ⟨0,_,_,Nat.zero_le _,rfl,rfl,hrel0⟩
 case round =>
  obtain ⟨j,A,c,hj,rfl,rfl,hrel⟩:=hrel
  by_cases hlt:j<M
  ·have hcl:=Lib.hid (HC.out j wr hlt hrel.out.2.2.choose_spec.choose_spec.2.2.2)
   have hS:=Lib.hid hrel.out.2.2.choose_spec.choose_spec.2.2
   cases ht:tk j
   ·rw [ht] at hcl
    have HT:=Lib.hid ht
    clear ht
    go_wp2_with fail
    refine hcl.out.mono ?_
    rintro e w2 ⟨rfl,rfl⟩
    have HR:Hid (TogRel J w s o S F D U M k st tk (j+1) (.slice A 128 c) wr):=Lib.hid (by unfold TogRel;rw [tog_skip HT.out];exact hrel.out)
    clear hcl hrel hrel0 HT hS
    go_wp2
    go_roundw
    case rel=>exact ⟨j+1,A,c,by omega,rfl,by go_num,HR⟩
    case measure=>simp [intOf];omega
   ·rw [ht] at hcl
    have HT:=Lib.hid ht
    have HL:=Lib.hid (look_any hS.out.1 (HF.out.same (tog_same (s:=s) (M:=M) (k:=k) (st:=st) (tk:=tk) (S:=S) j).len (tog_same (s:=s) (M:=M) (k:=k) (st:=st) (tk:=tk) (S:=S) j).sectors) hT hTB st j hst hlt)
    rw [HK.out] at HL
    clear ht
    go_wp2_with fail
    refine hcl.out.mono ?_
    rintro e w2 ⟨rfl,rfl⟩
    clear hcl
    go_wp2_with fail
    refine HL.out.mono ?_
    rintro e w3 ⟨⟨A3,n3,c3,rfl,hX⟩,hs3⟩
    obtain ⟨h0,hsec,A2,cc,he,hb,_⟩:=hrel.out
    injection he with he _ he2
    subst he he2
    have htk:=tog_take (s:=s) (M:=M) (k:=k) (st:=st) (tk:=tk) (S:=S) h0 HT.out
    have hVs:Sh.Sec (V (tog s M k st tk S j).1 (numOf s M st j) (dataOf k)):=by
     have hf2:=HF.out.same (tog_same (s:=s) (M:=M) (k:=k) (st:=st) (tk:=tk) (S:=S) j).len (tog_same (s:=s) (M:=M) (k:=k) (st:=st) (tk:=tk) (S:=S) j).sectors
     exact hS.out.1.sec (by rw [hf2.len];exact hf2.num_lt st hlt) (sum_of_lt (show k<blk _ by have:=hf2.need;have:=HK.out;omega)).1
    generalize rdY (tog s M k st tk S j).1 (numOf s M st j) k=y at *
    have HB:=Lib.hid (bytes_stay HH.out hb hs3.2)
    have HS3:=Lib.hid (RStay.trans hS.out.2 hs3)
    have hly:=HLK.out y
    by_cases hy:y=0
    ·subst hy
     obtain ⟨rfl,hX2⟩:n3=128∧Sh.Bytes wr w3 A3 (V (tog s M k st tk S j).1 (numOf s M st j) (dataOf k)):=by
      rcases hX with ⟨_,h1,h2⟩ | ⟨h1,_⟩
      ·exact ⟨h1,h2⟩
      ·exact absurd rfl h1
     have HXR:=Lib.hid (rxor_ok A A3 c c3 _ _ w3 hsec.2 hVs.2 HB.out.1 hX2.1)
     rw [if_pos rfl,if_pos rfl] at htk
     have HTK:=Lib.hid htk
     have HSC:=Lib.hid (xorL_sec hsec hVs)
     have hsz3:w.heap.size≤w3.heap.size:=HS3.out.2.size
     have HZ3:=Lib.hid hsz3
     clear hX hX2 hb hsec hVs htk h0 hs3 hrel hrel0 HL hsz3
     go_wp2_with (first
      | (go_at_call 58;refine (hly.out _).mono ?_;rintro e w' ⟨rfl,rfl⟩)
      | (go_at_call 62;refine HXR.out.mono ?_;rintro e w4 ⟨E,f,rfl,hown,hb4⟩))
     have HR:Hid (TogRel J w s o S F D U M k st tk (j+1) (.slice E 128 f) w4):=Lib.hid (by
      unfold TogRel
      rw [HTK.out]
      exact ⟨rfl,HSC.out,E,f,rfl,bytes_own hown HZ3.out,RStay.trans HS3.out.2 (RStay.here HS3.out.1 hb4)⟩)
     clear hown hb4 HTK HXR hly
     go_roundw
     case rel=>exact ⟨j+1,E,f,by omega,rfl,by go_num,HR⟩
     case measure=>simp [intOf];omega
    ·rw [if_neg hy,if_neg hy] at htk
     have hne:(tog s M k st tk S (j+1)).2.2≠0:=by
      rw [htk]
      show (if y=4∨y=5 then (10:Int) else y)≠0
      split
      ·decide
      ·exact hy
     have hst2:=tog_stop hne (show j+1≤M from hlt)
     rw [htk] at hst2 hne
     have HST:=Lib.hid hst2
     have HNE:=Lib.hid hne
     clear hX hb hsec hVs htk h0 hs3 hrel hrel0 HL hst2 hne
     by_cases hl:y=4∨y=5
     ·rw [decide_eq_true hl] at hly
      have HLL:=Lib.hid hl
      clear hl hy
      go_wp2_with (go_at_call 58;refine (hly.out _).mono ?_;rintro e w' ⟨rfl,rfl⟩)
      go_ret2
      rw [HST.out]
      exact ⟨⟨none,0,0,by rw [if_pos HLL.out];rfl,.inr ⟨HNE.out,rfl,rfl,rfl⟩⟩,HS3.out⟩
     ·rw [decide_eq_false hl] at hly
      have hq:(y != 0)=true:=by simpa using hy
      have hq2:(y == 0)=false:=by simpa using hy
      have HLL:=Lib.hid hl
      clear hl hy
      go_wp2_with (go_at_call 58;refine (hly.out _).mono ?_;rintro e w' ⟨rfl,rfl⟩)
      go_ret2
      rw [HST.out]
      exact ⟨⟨none,0,0,by rw [if_neg HLL.out];rfl,.inr ⟨HNE.out,rfl,rfl,rfl⟩⟩,HS3.out⟩
  ·obtain rfl:j=M:=by omega
   obtain ⟨h0,hsec,A2,c2,he,hb,hs2⟩:=hrel.out
   injection he with he _ he2
   subst he he2
   have H0:=Lib.hid h0
   have HB:=Lib.hid hb
   have HS:=Lib.hid hs2
   clear h0 hsec hb hs2 hrel hrel0
   go_wp2
   go_ret2
   exact ⟨⟨A,128,c,by rw [H0.out];rfl,.inl ⟨H0.out,rfl,HB.out⟩⟩,HS.out⟩
end
theorem enters_is {f : FuncId} {fn : Func} {c : Code} (hf : Tryz.prog.funcs[f]? = some fn) (hname : (fn.name == "runtime.NumGoroutine") = false) (hb : fn.body = some c) (args : Array Value) (w : World) : (callFunc f args).run Tryz.prog w = .ok (.enter f args) w := by
 have h1 : fn.name ≠ "runtime.NumGoroutine" := by simpa using hname
 simp [callFunc,hf,h1,hb,mark]
def tkNot (a:Nat) (m:Nat):Bool:=decide (m≠a)
def tkNeither (a b:Nat) (m:Nat):Bool:=decide (m≠a∧m≠b)
def tkEither (a b:Nat) (m:Nat):Bool:=decide (m=a∨m=b)
theorem cl_should (q a m:Nat) (w:World) (hq:w.cell? ⟨q,0,none⟩=some (.int .i64 (a:Nat))) :
  Calls Tryz.prog 108 #[.int .i64 m,.pointer (some ⟨q,0,none⟩)] w fun e w2=>e=.returned (.bool (tkNot a m))∧w=w2:=by
 unfold tkNot
 by_cases h:m=a
 ·subst h
  rw [decide_eq_false (fun e=>e rfl)]
  go_enter Tryz.func108,Tryz.ntmps108
  go_wp2
  go_ret
  exact ⟨rfl,rfl⟩
 ·have h1:((m:Int) != (a:Int))=true:=by rw [bne_iff_ne];omega
  rw [decide_eq_true h]
  clear h
  go_enter Tryz.func108,Tryz.ntmps108
  go_wp2
  go_ret
  exact ⟨rfl,rfl⟩
theorem cl_other (q r a b m:Nat) (w:World) (hq:w.cell? ⟨q,1,none⟩=some (.int .i64 (a:Nat))) (hr:w.cell? ⟨r,0,none⟩=some (.int .i64 (b:Nat))) :
  Calls Tryz.prog 143 #[.int .i64 m,.pointer (some ⟨q,0,none⟩),.pointer (some ⟨r,0,none⟩)] w fun e w2=>e=.returned (.bool (tkNeither a b m))∧w=w2:=by
 unfold tkNeither
 by_cases h:m=a
 ·subst h
  rw [decide_eq_false (fun e=>e.1 rfl)]
  go_enter Tryz.func143,Tryz.ntmps143
  go_wp2
  go_ret
  exact ⟨rfl,rfl⟩
 ·have h1:((m:Int) != (a:Int))=true:=by rw [bne_iff_ne];omega
  by_cases h2:m=b
  ·subst h2
   rw [decide_eq_false (fun e=>e.2 rfl)]
   clear h
   go_enter Tryz.func143,Tryz.ntmps143
   go_wp2
   go_ret
   exact ⟨rfl,rfl⟩
  ·have h3:((m:Int) != (b:Int))=true:=by rw [bne_iff_ne];omega
   rw [decide_eq_true ⟨h,h2⟩]
   clear h h2
   go_enter Tryz.func143,Tryz.ntmps143
   go_wp2
   go_ret
   exact ⟨rfl,rfl⟩
theorem cl_part (q r a b m:Nat) (w:World) (hq:w.cell? ⟨q,1,none⟩=some (.int .i64 (a:Nat))) (hr:w.cell? ⟨r,0,none⟩=some (.int .i64 (b:Nat))) :
  Calls Tryz.prog 144 #[.int .i64 m,.pointer (some ⟨q,0,none⟩),.pointer (some ⟨r,0,none⟩)] w fun e w2=>e=.returned (.bool (tkEither a b m))∧w=w2:=by
 unfold tkEither
 by_cases h:m=a
 ·subst h
  rw [decide_eq_true (.inl rfl)]
  go_enter Tryz.func144,Tryz.ntmps144
  go_wp2
  go_ret
  exact ⟨rfl,rfl⟩
 ·have h1:((m:Int) == (a:Int))=false:=by rw [beq_eq_false_iff_ne];omega
  by_cases h2:m=b
  ·subst h2
   rw [decide_eq_true (.inr rfl)]
   clear h
   go_enter Tryz.func144,Tryz.ntmps144
   go_wp2
   go_ret
   exact ⟨rfl,rfl⟩
  ·have h3:((m:Int) == (b:Int))=false:=by rw [beq_eq_false_iff_ne];omega
   rw [decide_eq_false (fun e=>e.elim h h2)]
   clear h h2
   go_enter Tryz.func144,Tryz.ntmps144
   go_wp2
   go_ret
   exact ⟨rfl,rfl⟩
theorem cl_whole (m:Nat) (w:World) :
  Calls Tryz.prog 50 #[.int .i64 m] w fun e w2=>e=.returned (.bool true)∧w=w2:=by
 go_enter Tryz.func50,Tryz.ntmps50
 go_wp2
 go_ret
 exact ⟨rfl,rfl⟩
section
variable {J:Vk} {w w':World} {s:Go.Proofs.YthhldceidmphfaaGreatDoor.S.Sup} {o:Nat→Int} {S:Sh.Sf} {F:Nat→Prop} {D U:Set0} {M St:Nat}
theorem should_any (h:Vr J w s o S F D U) (hf:Fits J.n J.L s M St S) (hT:Tabs J.W) (hTB:max 1 2+1≤J.B) (st a:Nat) (hst:st<St) :
  Calls Tryz.prog 59 #[.pointer (some ⟨J.v,0,none⟩),.int .i64 st,.int .i64 a] w fun e w' =>
   ReadO (tog s M (2+2*J.L+st) st (tkNot a) S M).2.2 (tog s M (2+2*J.L+st) st (tkNot a) S M).2.1 w e w'∧RStay J w w' s o (tog s M (2+2*J.L+st) st (tkNot a) S M).1 F D U:=by
 have hb:Below w.heap.size w (w.alloc (.cells #[.int .i64 a] 3)):=(Below.refl _ _).alloc (Nat.le_refl _) _
 have q0:=heap_alloc_new w (.cells #[.int .i64 a] 3)
 have hlt:w.heap.size<(w.alloc (.cells #[.int .i64 a] 3)).heap.size:=by simp
 have hna:¬AllV J F w.heap.size:=fun e=>Nat.lt_irrefl _ (h.lt _ e)
 have HT:=Lib.hid (together_any (h.grown hb) hf hT hTB st hst (tkNot a) 108 #[.pointer (some ⟨w.heap.size,0,none⟩)] (enters_is Tryz.func108 (by kernel_rfl) rfl) (fun m w1 _ ho=>cl_should w.heap.size a m w1 ((ho.cell (p:=⟨w.heap.size,0,none⟩) hlt hna).trans (cell_of_row _ _ 0 _ _ _ q0))))
 have HB:=Lib.hid hb
 have hmf:∀(fn:Fn) (first cap:Array Value) (w:World),(Instr.makeFunc fn first cap).run Tryz.prog w=.ok (.func fn first cap) w:=fun _ _ _ _=>rfl
 clear h hf hT hTB hst hb q0 hlt hna
 go_enter Tryz.func59,Tryz.ntmps59
 go_wp2_with fail
 refine HT.out.mono ?_
 rintro e w3 ⟨⟨A,n,c,rfl,hX⟩,hs⟩
 have HX:=Lib.hid hX
 have HS:=Lib.hid hs
 clear hX hs HT
 go_wp2
 go_ret2
 exact ⟨ReadO.from ⟨A,n,c,rfl,HX.out⟩ HB.out.size,RStay.trans (only_below _ HB.out) HS.out⟩
def spotV (st a pl:Nat):Value:=.agg #[.int .i64 st,.int .i64 a,.int .i64 pl]
set_option maxRecDepth 20000 in
theorem otherData_any (h:Vr J w s o S F D U) (hf:Fits J.n J.L s M St S) (hT:Tabs J.W) (hTB:max 1 2+1≤J.B) (st a pl b:Nat) (hst:st<St) :
  Calls Tryz.prog 112 #[.pointer (some ⟨J.v,0,none⟩),spotV st a pl,.int .i64 b] w fun e w' =>
   ReadO (tog s M (2+2*J.L+st) st (tkNeither a b) S M).2.2 (tog s M (2+2*J.L+st) st (tkNeither a b) S M).2.1 w e w'∧RStay J w w' s o (tog s M (2+2*J.L+st) st (tkNeither a b) S M).1 F D U:=by
 obtain ⟨q0,q1,z0,b0⟩:=two_new' w #[.int .i64 st,.int .i64 a,.int .i64 pl] #[.int .i64 b] 93 3
 have hn0:¬AllV J F w.heap.size:=fun e=>Nat.lt_irrefl _ (h.lt _ e)
 have hn1:¬AllV J F (w.heap.size+1):=fun e=>by have:=h.lt _ e;omega
 have k0:=cell_of_row _ _ 0 _ _ _ q0
 simp only [List.getElem?_toArray,List.getElem?_cons_zero] at k0
 have HT:=Lib.hid (together_any (h.grown b0) hf hT hTB st hst (tkNeither a b) 143 #[.pointer (some ⟨w.heap.size,0,none⟩),.pointer (some ⟨w.heap.size+1,0,none⟩)] (enters_is Tryz.func143 (by kernel_rfl) rfl) (fun m w1 _ ho=>cl_other w.heap.size (w.heap.size+1) a b m w1 ((ho.cell (p:=⟨w.heap.size,1,none⟩) (by show w.heap.size<_;omega) hn0).trans (cell_of_row _ _ 1 _ _ _ q0)) ((ho.cell (p:=⟨w.heap.size+1,0,none⟩) (by show w.heap.size+1<_;omega) hn1).trans (cell_of_row _ _ 0 _ _ _ q1))))
 have HB:=Lib.hid b0
 have hmf:∀(fn:Fn) (first cap:Array Value) (w:World),(Instr.makeFunc fn first cap).run Tryz.prog w=.ok (.func fn first cap) w:=fun _ _ _ _=>rfl
 unfold spotV
 clear h hf hT hTB hst b0 q0 q1 z0 hn0 hn1
 go_enter Tryz.func112,Tryz.ntmps112
 go_wp2_with fail
 refine HT.out.mono ?_
 rintro e w3 ⟨⟨A,n,c,rfl,hX⟩,hs⟩
 have HX:=Lib.hid hX
 have HS:=Lib.hid hs
 clear hX hs HT k0
 go_wp2
 go_ret2
 exact ⟨ReadO.from ⟨A,n,c,rfl,HX.out⟩ HB.out.size,RStay.trans (only_below _ HB.out) HS.out⟩
def partR (s:Go.Proofs.YthhldceidmphfaaGreatDoor.S.Sup) (M k st a b:Nat) (S:Sh.Sf):Sh.Sf × Sh.Bs × Int :=
 if (tog s M k st (tkNeither a b) S M).2.2≠10 then tog s M k st (tkNeither a b) S M else tog s M k st (tkEither a b) (tog s M k st (tkNeither a b) S M).1 M
theorem partR_same {k st a b:Nat}:Same S (partR s M k st a b S).1:=by
 unfold partR
 split
 ·exact tog_same M
 ·exact (tog_same M).trans (tog_same M)
set_option maxRecDepth 20000 in
theorem part_any (h:Vr J w s o S F D U) (hf:Fits J.n J.L s M St S) (hT:Tabs J.W) (hTB:max 1 2+1≤J.B) (st a pl b:Nat) (hst:st<St) :
  Calls Tryz.prog 113 #[.pointer (some ⟨J.v,0,none⟩),spotV st a pl,.int .i64 b] w fun e w' =>
   ReadO (partR s M (2+2*J.L+st) st a b S).2.2 (partR s M (2+2*J.L+st) st a b S).2.1 w e w'∧RStay J w w' s o (partR s M (2+2*J.L+st) st a b S).1 F D U:=by
 obtain ⟨q0,q1,z0,b0⟩:=two_new' w #[.int .i64 st,.int .i64 a,.int .i64 pl] #[.int .i64 b] 93 3
 have hn0:¬AllV J F w.heap.size:=fun e=>Nat.lt_irrefl _ (h.lt _ e)
 have hn1:¬AllV J F (w.heap.size+1):=fun e=>by have:=h.lt _ e;omega
 have HO:=Lib.hid (otherData_any (h.grown b0) hf hT hTB st a pl b hst)
 have HQ:=Lib.hid (And.intro q0 q1)
 have HN:=Lib.hid (And.intro hn0 hn1)
 have HZ:=Lib.hid z0
 have HB:=Lib.hid b0
 have HP2:=Lib.hid (fun (w2:World) (h2:RStay J ((w.alloc (.cells #[.int .i64 st,.int .i64 a,.int .i64 pl] 93)).alloc (.cells #[.int .i64 b] 3)) w2 s o (tog s M (2+2*J.L+st) st (tkNeither a b) S M).1 F D U)=>together_any h2.1 (hf.same (tog_same (s:=s) (k:=2+2*J.L+st) (st:=st) (tk:=tkNeither a b) (S:=S) M).len (tog_same (s:=s) (k:=2+2*J.L+st) (st:=st) (tk:=tkNeither a b) (S:=S) M).sectors) hT hTB st hst (tkEither a b) 144 #[.pointer (some ⟨w.heap.size,0,none⟩),.pointer (some ⟨w.heap.size+1,0,none⟩)] (enters_is Tryz.func144 (by kernel_rfl) rfl) (fun m w1 _ ho=>by
  have ho2:=h2.2.trans ho (fun _ e=>.inl e)
  exact cl_part w.heap.size (w.heap.size+1) a b m w1 ((ho2.cell (p:=⟨w.heap.size,1,none⟩) (by show w.heap.size<_;omega) hn0).trans (cell_of_row _ _ 1 _ _ _ q0)) ((ho2.cell (p:=⟨w.heap.size+1,0,none⟩) (by show w.heap.size+1<_;omega) hn1).trans (cell_of_row _ _ 0 _ _ _ q1))))
 have hmf:∀(fn:Fn) (first cap:Array Value) (w:World),(Instr.makeFunc fn first cap).run Tryz.prog w=.ok (.func fn first cap) w:=fun _ _ _ _=>rfl
 have hp:Hid (partR s M (2+2*J.L+st) st a b S=if (tog s M (2+2*J.L+st) st (tkNeither a b) S M).2.2≠10 then tog s M (2+2*J.L+st) st (tkNeither a b) S M else tog s M (2+2*J.L+st) st (tkEither a b) (tog s M (2+2*J.L+st) st (tkNeither a b) S M).1 M):=Lib.hid rfl
 generalize partR s M (2+2*J.L+st) st a b S=pR at *
 generalize tog s M (2+2*J.L+st) st (tkNeither a b) S M=r1 at *
 obtain ⟨S1,x1,y1⟩:=r1
 simp only at HO HP2 hp
 unfold spotV at *
 have k0:=cell_of_row _ _ 0 _ _ _ q0
 have k1:=cell_of_row _ _ 1 _ _ _ q0
 have k2:=cell_of_row _ _ 2 _ _ _ q0
 have l0:=cell_of_row _ _ 0 _ _ _ q1
 simp only [List.getElem?_toArray,List.getElem?_cons_zero,List.getElem?_cons_succ] at k0 k1 k2 l0
 clear h hf hT hTB hst b0 q0 q1 z0 hn0 hn1
 go_enter Tryz.func113,Tryz.ntmps113
 go_wp2_with fail
 refine HO.out.mono ?_
 rintro e w3 ⟨⟨A,n,c,rfl,hX⟩,hs⟩
 have HX:=Lib.hid hX
 have HS:=Lib.hid hs
 clear hX hs HO k0 k1 k2 l0
 by_cases h10:y1=10
 ·subst h10
  have HP3:=Lib.hid (HP2.out w3 HS.out)
  have k0:w3.cell? ⟨w.heap.size,0,none⟩=some (.int .i64 st):=(HS.out.2.cell (p:=⟨w.heap.size,0,none⟩) (by have:=HZ.out;show w.heap.size<_;omega) HN.out.1).trans (cell_of_row _ _ 0 _ _ _ HQ.out.1)
  rw [if_neg (fun e=>e rfl)] at hp
  go_wp2_with fail
  refine HP3.out.mono ?_
  rintro e w4 ⟨⟨A4,n4,c4,rfl,hX4⟩,hs4⟩
  have HX4:=Lib.hid hX4
  have HS4:=Lib.hid hs4
  have HP:=Lib.hid hp
  clear hX4 hs4 HP3 HP2 k0 hp
  go_wp2
  go_ret2
  rw [HP.out.out]
  exact ⟨ReadO.from ⟨A4,n4,c4,rfl,HX4.out⟩ (Nat.le_trans HB.out.size HS.out.2.size),RStay.trans ((only_below _ HB.out).trans HS.out.2 fun _ e=>.inl e) HS4.out⟩
 ·rw [if_pos h10] at hp
  have hq:(y1 != 10)=true:=by simpa using h10
  have HP:=Lib.hid hp
  clear h10 hp HP2
  go_wp2
  go_ret2
  rw [HP.out.out]
  exact ⟨ReadO.from ⟨A,n,c,rfl,HX.out⟩ HB.out.size,RStay.trans (only_below _ HB.out) HS.out⟩
end
end Go.Proofs.YthhldceidmphfaaGreatDoor.U
