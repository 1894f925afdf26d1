/-
  What the statement's proof rests on, part 39.
  Conditions: each theorem's own.
-/
import Derived.Test.YtepoepmndckmaaaGreatDoorY38
import Derived.Test.YtepoepmndckmaaaGreatDoorYtk
open Go.Lib (hid)
open Go.Proofs.YtepoepmndckmaaaGreatDoor.S renaming Sup → SuP
namespace Go.Proofs.YtepoepmndckmaaaGreatDoor.U
open Go.RowKit Go.Maps
inductive RpR (LL:Nat) (s:SuP) (M St:Nat) (U:Set0) (S:Sh.Sf) (o:Nat->Int) (d k:Nat):Int->Stt->Set0->Prop
 | got (S1:Sh.Sf) (y:Int) (t:Stt):Same S S1->gotY S d k=0->RedoR LL s M St d (numAt (V S d (dataOf (2+2*k))) 0) (numAt (V S d (dataOf (2+2*k))) 1) (V S d (dataOf (3+2*k))) S1 o y t->RpR LL s M St U S o d k y t (U.put (slotKey d k) one0)
 | bad (S1:Sh.Sf):Same S S1->(gotY S d k=5\/gotY S d k=8)->RpR LL s M St U S o d k 0 ⟨S1,o⟩ (U.put (slotKey d k) one0)
 | none (S1:Sh.Sf):Same S S1->gotY S d k=7->RpR LL s M St U S o d k 0 ⟨S1,o⟩ U
 | no (S1:Sh.Sf):Same S S1->gotY S d k≠0->gotY S d k≠5->gotY S d k≠8->gotY S d k≠7->RpR LL s M St U S o d k (bd (gotY S d k)) ⟨S1,o⟩ U
section
variable {J:Vk} {w w':World} {s:SuP} {o:Nat->Int} {S:Sh.Sf} {F:Nat->Prop} {D U:Set0} {M St:Nat}
def RpQ (J:Vk) (w:World) (s:SuP) (o:Nat->Int) (S:Sh.Sf) (F:Nat->Prop) (D U:Set0) (M St d k:Nat) (e:Ending) (w':World):Prop :=
 ∃(y:Int) (t:Stt) (U':Set0),e=.returned (.int .i64 y)/\RpR J.L s M St U S o d k y t U'/\RGoes J w w' s t.o t.S F D U'
theorem redo_all (h:Vr J w s o S F D U) (hf:Fits J.n J.L s M St S) (hT:Tabs J.W) (hTB:max 0 1+1<=J.B) (hP:Go.Proofs.YtepoepmndckmaaaGreatDoor.L.Tab J.W) (hPB:3+1<=J.B) (nr rs rp:Nat) {A:Option Addr} {c mm:Nat} {l:Sh.Bs} (hl:Sh.Sec l) (hA:Sh.Beside w (AllV J F) A l) (hL:∀x∈S.disks,x.waits.length<=mm) (hmm:mm<=900000000) :
  Calls Tryz.prog 130 #[.pointer (some ⟨J.v,0,none⟩),.int .i64 nr,.agg #[.int .i64 rs,.int .i64 rp,.slice A 128 c]] w (RedoQ J w s o S F D U M St nr rs rp l):=by
 by_cases hx:St<=rs\/M-1<=rp
 ·exact redo_beyond h hf nr rs rp hx A c 128 l
 ·exact redo_any h hf hT hTB hP hPB nr rs rp (by omega) (by omega) hl hA hL hmm
def GotU (J:Vk) (w:World) (s:SuP) (o:Nat->Int) (S:Sh.Sf) (F:Nat->Prop) (D U:Set0) (h l:Sh.Bs) (y:Int) (x0 x1:Nat) (A:Option Addr) (n:Nat) (w':World):Prop :=
 ∃S1,Same S S1/\RStay J w w' s o S1 F D U/\(y=0->x0=numAt h 0/\x1=numAt h 1/\n=128/\Sh.Bytes w w' A l)
theorem vget (h:Vr J w s o S F D U) (hf:Fits J.n J.L s M St S) (hT:Tabs J.W) (hTB:max 0 1+1<=J.B) (hFl:Flds J.W) (hFB:4+1<=J.B) (d k:Nat) (hd:d<J.n) (hk:k<J.L) :
  Calls Tryz.prog 129 #[.pointer (some ⟨J.gn d,0,none⟩),.int .i64 k] w fun e w'=>∃(x0 x1:Nat) (A:Option Addr) (n c:Nat),e=.returned (.tuple #[.agg #[.int .i64 x0,.int .i64 x1,.slice A n c],.int .i64 (gotY S d k)])/\GotU J w s o S F D U (V S d (dataOf (2+2*k))) (V S d (dataOf (3+2*k))) (gotY S d k) x0 x1 A n w':=by
 refine (get_any2 (h.lg hd) hT hTB hFl hFB (by rw [hf.len];exact hd) k hk hf.l2 (by have:=hf.need;omega)).mono ?_
 rintro e w' ⟨hg,S1,hs,hl,ho⟩
 have hst:=h.stays hl.dv ho
 rcases hg with ⟨hy,rfl⟩ | ⟨hy,A,c,rfl,hown⟩
 ·exact ⟨0,0,none,0,0,rfl,S1,hs,hst,fun e=>absurd e hy⟩
 ·refine ⟨_,_,A,128,c,by rw [hy],S1,hs,hst,fun _=>⟨rfl,rfl,rfl,bytes_own hown (Nat.le_refl _)⟩⟩
def SRp (J:Vk) (q d k:Nat) (W':World):Prop:=W'.cell? ⟨J.v,10,none⟩=some (.slice (some ⟨J.t,0,none⟩) J.n J.n)/\W'.cell? ⟨J.t,d*2+1,none⟩=some (.pointer (some ⟨J.gn d,0,none⟩))/\W'.cell? ⟨q,0,none⟩=some (.int .i64 d)/\W'.cell? ⟨q,1,none⟩=some (.int .i64 k)
theorem srp_below {q d k:Nat} (h:SRp J q d k w) (hl:J.v<w.heap.size/\J.t<w.heap.size/\q<w.heap.size) (hb:Below w.heap.size w w'):SRp J q d k w' :=
 ⟨(hb.cell (p:=⟨J.v,10,none⟩) hl.1).trans h.1,(hb.cell (p:=⟨J.t,d*2+1,none⟩) hl.2.1).trans h.2.1,(hb.cell (p:=⟨q,0,none⟩) hl.2.2).trans h.2.2.1,(hb.cell (p:=⟨q,1,none⟩) hl.2.2).trans h.2.2.2⟩
theorem srp_set {q d k r:Nat} {cs:Array Value} (h:SRp J q d k w) (hl:J.v<w.heap.size/\J.t<w.heap.size/\q<w.heap.size) (hn:J.v≠r/\J.t≠r/\q≠r):SRp J q d k (w.setRow r cs):=by
 have ho:=only_setRow w r cs
 exact ⟨(ho.cell (p:=⟨J.v,10,none⟩) hl.1 hn.1).trans h.1,(ho.cell (p:=⟨J.t,d*2+1,none⟩) hl.2.1 hn.2.1).trans h.2.1,(ho.cell (p:=⟨q,0,none⟩) hl.2.2 hn.2.2).trans h.2.2.1,(ho.cell (p:=⟨q,1,none⟩) hl.2.2 hn.2.2).trans h.2.2.2⟩
theorem srp_vr {q d k:Nat} (hd:d<J.n) (h:Vr J w s o S F D U) (h0:w.cell? ⟨q,0,none⟩=some (.int .i64 d)) (h1:w.cell? ⟨q,1,none⟩=some (.int .i64 k)):SRp J q d k w :=
 ⟨h.vo.vol.c10,h.vo.vol.log hd,h0,h1⟩
structure RpS (J:Vk) (w:World) (s:SuP) (o:Nat->Int) (S S1:Sh.Sf) (F:Nat->Prop) (D U:Set0) (h l:Sh.Bs) (y:Int) (d k r x0 x1:Nat) (A:Option Addr) (n c:Nat) (w3:World):Prop where
 same:Same S S1
 vr:Vr J w3 s o S1 F D U
 mv:Sh.Moves (AllV J F) w (AllV J F) w3
 q:w3.heap[w.heap.size]?=some (.cells #[.int .i64 d,.int .i64 k] 155 (0,0))/\¬AllV J F w.heap.size
 r:w3.heap[r]?=some (.cells #[.int .i64 x0,.int .i64 x1,.slice A n c] 190 (0,0))/\¬AllV J F r
 got:y=0->x0=numAt h 0/\x1=numAt h 1/\n=128/\Sh.Bytes w w3 A l
theorem only_vr {r:Nat} (h:Vr J w s o S F D U) (ho:Sh.Only (fun b=>b=r) w w') (hn:¬AllV J F r) (hB:J.B<=r) (hg:∀i,i<J.n->J.gn i≠r):Vr J w' s o S F D U:=by
 have hk:∀b,b<w.heap.size->b≠r->w'.heap[b]?=w.heap[b]?:=fun b hb hx=>ho.block b hb hx
 have hx:∀b,AllV J F b->b≠r:=fun b hb e=>hn (e▸hb)
 have hbel:Below J.B J.W w':=h.bel.trans (ho.below (fun b e=>by rw [e];exact hB) h.size)
 exact ⟨⟨⟨⟨h.vo.ds.on.shelf.only ho (fun b hb e=>hx b (.inl (.inl hb)) e),h.vo.ds.on.low,hbel,Nat.le_trans h.size ho.size⟩,fun i hi=>(h.vo.ds.dev i hi).same (hk _ (h.vo.ds.dev i hi).lt (hx _ (.inl (.inr ⟨i,hi,rfl⟩)))),h.vo.ds.apart,h.vo.ds.inj,h.vo.ds.low⟩,h.vo.vol.kept (hk _ h.vo.vol.vlt (hx _ (.inr (.inl rfl)))) (hk _ h.vo.vol.tlt (hx _ (.inr (.inr (.inl rfl))))),h.vo.apart,h.vo.low,⟨Nat.lt_of_lt_of_le h.vo.lt.1 ho.size,Nat.lt_of_lt_of_le h.vo.lt.2 ho.size⟩⟩,⟨fun i hi=>(h.logs.log i hi).same (hk _ (h.logs.log i hi).lt (hg i hi)),h.logs.apart,h.logs.low⟩,h.ne,set_same h.opens (hk _ h.vo.lt.1 (hx _ (.inr (.inr (.inr (.inl rfl)))))),set_same h.used (hk _ h.vo.lt.2 (hx _ (.inr (.inr (.inr (.inr rfl))))))⟩
theorem rps_store {h l:Sh.Bs} {y:Int} {d k r x0 x1 n c:Nat} {A:Option Addr} {S1:Sh.Sf} {w2:World} {cs:Array Value} (hs:Same S S1) (hv:Vr J w2 s o S1 F D U) (hm:Sh.Moves (AllV J F) w (AllV J F) w2)
  (hq:w2.heap[w.heap.size]?=some (.cells #[.int .i64 d,.int .i64 k] 155 (0,0))/\¬AllV J F w.heap.size) (hr:w2.heap[r]?=some (.cells cs 190 (0,0))/\¬AllV J F r) (hB:J.B<=r) (hg:∀i,i<J.n->J.gn i≠r) (hqr:w.heap.size≠r)
  (hgo:y=0->x0=numAt h 0/\x1=numAt h 1/\n=128/\Sh.Bytes w w2 A l) (hA:∀a,y=0->A=some a->a.block≠r) (hrw:w.heap.size<=r) :
  RpS J w s o S S1 F D U h l y d k r x0 x1 A n c (w2.setRow r #[.int .i64 x0,.int .i64 x1,.slice A n c]):=by
 have ho:=only_setRow w2 r #[.int .i64 x0,.int .i64 x1,.slice A n c]
 refine ⟨hs,only_vr hv ho hr.2 hB hg,⟨hm.1.trans ho fun b e=>.inr (by rw [e];exact hrw),fun b e=>hm.2 b e |>.imp id fun e=>e⟩,⟨(ho.block _ (lt_of_block hq.1) hqr).trans hq.1,hq.2⟩,⟨setRow_heap w2 r cs _ _ (0,0) hr.1,hr.2⟩,fun e=>?_⟩
 obtain ⟨e1,e2,e3,e4⟩:=hgo e
 exact ⟨e1,e2,e3,bytes_only e4 (fun a ha=>hA a e ha) ho⟩
theorem info_rec:(Tryz.prog.info? 190).map (·.size)=some 3:=by kernel_rfl
set_option maxRecDepth 20000 in
set_option maxHeartbeats 4000000 in
theorem replaySlot_any (h:Vr J w s o S F D U) (hf:Fits J.n J.L s M St S) (hT:Tabs J.W) (hTB:max 0 1+1<=J.B) (hFl:Flds J.W) (hFB:4+1<=J.B) (hP:Go.Proofs.YtepoepmndckmaaaGreatDoor.L.Tab J.W) (hPB:3+1<=J.B) (d k:Nat) (hd:d<J.n) (hk:k<J.L) {mm:Nat} (hL:∀x∈S.disks,x.waits.length<=mm) (hmm:mm<=900000000) (hU:Maps.size U<=1000000) :
  Calls Tryz.prog 96 #[.pointer (some ⟨J.v,0,none⟩),.agg #[.int .i64 d,.int .i64 k]] w (RpQ J w s o S F D U M St d k):=by
 have hb0:Below w.heap.size w (w.alloc (.cells #[.int .i64 d,.int .i64 k] 155)):=(Below.refl _ _).alloc (Nat.le_refl _) _
 have q0:=heap_alloc_new w (.cells #[.int .i64 d,.int .i64 k] 155)
 have V0:=(h.grown hb0).grown (drew_below _)
 have hd2:d<1000000:=by
  obtain ⟨D0,gs,q⟩:=h.vo.ds.on.shelf
  have:=q.most
  have:=hf.len
  omega
 have hk2:k<1000000:=by have:=hf.l2;omega
 obtain ⟨k0,k1,_,_⟩:=two_cells q0
 have hz0:w.heap.size<(w.alloc (.cells #[.int .i64 d,.int .i64 k] 155)).drew.heap.size:=by show w.heap.size<(w.alloc _).heap.size;simp
 have hn0:¬AllV J F w.heap.size:=fun e=>Nat.lt_irrefl _ (h.lt _ e)
 have hS0:SRp J w.heap.size d k (w.alloc (.cells #[.int .i64 d,.int .i64 k] 155)).drew:=srp_vr hd V0 k0 k1
 have HS0:=hid hS0
 have HN0:=hid (And.intro hn0 hz0)
 have HV0:=hid (And.intro V0 (hb0.trans ((drew_below _).mono hb0.size)))
 have HQ0:=hid (show (w.alloc (.cells #[.int .i64 d,.int .i64 k] 155)).drew.heap[w.heap.size]?=_ from q0)
 have HH:=hid (And.intro h (And.intro hf (And.intro hL hU)))
 have HSE:=hid (show Sh.Sec (V S d (dataOf (3+2*k))) from h.secs hf (show 3+2*k<2+2*J.L+St by omega) d hd)
 have HFI:Hid (∀(y:Int) (t:Stt) (U':Set0),RpR J.L s M St U S o d k y t U'->RpR J.L s M St U S o d k y t U'):=hid fun _ _ _ e=>e
 have hlow:=h.size
 have HGN:=hid (fun i (hi:i<J.n)=>(h.logs.log i hi).lt)
 have HLW:=hid h.size
 clear h hf hL q0 hb0 V0 hS0 hn0 hz0 k0 k1 hU hlow
 go_enter Tryz.func96,Tryz.ntmps96
 go_wp2
 generalize (w.alloc (.cells #[.int .i64 d,.int .i64 k] 155))=w0 at *
 have j0:=fun (W':World) (h:SRp J w.heap.size d k W')=>h.1
 have j1:=fun (W':World) (h:SRp J w.heap.size d k W')=>h.2.1
 have j2:=fun (W':World) (h:SRp J w.heap.size d k W')=>h.2.2.1
 have j3:=fun (W':World) (h:SRp J w.heap.size d k W')=>h.2.2.2
 have HGA:=hid (vget HV0.out.1 HH.out.2.1 hT hTB hFl hFB d k hd hk)
 have hbA:Below w0.drew.heap.size w0.drew (w0.drew.alloc (.cells #[.int .i64 0,.int .i64 0,.slice none 0 0] 190)):=(Below.refl _ _).alloc (Nat.le_refl _) _
 have HGB:=hid (vget (HV0.out.1.grown hbA) HH.out.2.1 hT hTB hFl hFB d k hd hk)
 have HBA:=hid hbA
 have HZS:=hid (show J.v<w0.drew.heap.size/\J.t<w0.drew.heap.size/\w.heap.size<w0.drew.heap.size from ⟨HV0.out.1.vo.vol.vlt,HV0.out.1.vo.vol.tlt,HN0.out.2⟩)
 generalize hy:gotY S d k=y at *
 have HY:=hid hy
 clear hbA hy
 refine wp_region_held_drew (S:=SRp J w.heap.size d k) (by kernel_rfl) HS0.out (fun hHeld=>?_)
 refine tk 0 8 ?_
 refine tk 1 9 ?_
 refine tk 2 10 ?_
 refine tk 3 11 ?_
 refine tk 4 12 ?_
 refine tk 5 13 ?_
 refine tk 6 14 ?_
 refine tk 7 15 ?_
 refine tk 8 16 ?_
 refine tk 9 17 ?_
 refine tk 10 18 ?_
 refine wpAnyH_ready (rs:=[11,15]) (by kernel_rfl) (by simp) ?_
 refine AllReadyH.cons (o:=⟨some 19,_,_,_,_,_⟩) rfl (fun K hK=>?_) (AllReadyH.cons (o:=⟨some 5,_,_,_,_,_⟩) rfl (fun K hK=>?_) AllReadyH.nil)
 ·go_simp
  refine HGA.out.mono ?_
  rintro e w1 ⟨x0,x1,A,n,c,rfl,S1,hsm,hst,hgo⟩
  refine hK.out _ _ (⟨(hst.1.vo.vol.c10),hst.1.vo.vol.log hd,(hst.2.cell (p:=⟨w.heap.size,0,none⟩) HZS.out.2.2 HN0.out.1).trans hHeld.2.2.1,(hst.2.cell (p:=⟨w.heap.size,1,none⟩) HZS.out.2.2 HN0.out.1).trans hHeld.2.2.2⟩) (fun hHeld=>?_)
  clear hK K
  try simp only [Act.put,List.setIfInBounds_toArray,List.set_cons_zero,List.set_cons_succ]
  refine tk 12 7 ?_
  refine tk 13 20 ?_
  refine tk 14 21 ?_
  refine r1 15 (some 5) fun K hK=>?_
  rw [if_pos (by rfl)]
  go_simp
  refine hK.out _ _ (srp_below hHeld ⟨hst.1.vo.vol.vlt,hst.1.vo.vol.tlt,Nat.lt_of_lt_of_le HZS.out.2.2 hst.2.size⟩ ((Below.refl _ _).alloc (Nat.le_refl _) _)) (fun hHeld=>?_)
  clear hK K
  try simp only [Act.put,List.setIfInBounds_toArray,List.set_cons_zero,List.set_cons_succ]
  refine r1 16 none fun K hK=>?_
  rw [if_pos (by rfl)]
  refine wp_store_row 190 _ _ rfl (w1.heap.size) (#[.int .i64 x0,.int .i64 x1,.slice A n c]) rfl rfl 190 _ (heap_alloc_new w1 _) info_rec rfl (by simp [Value.oneCell']) ?_
  refine hK.out _ _ (srp_set hHeld (have b:=((Below.refl w1.heap.size w1).alloc (Nat.le_refl _) (.cells #[.int .i64 0,.int .i64 0,.slice none 0 0] 190)).size;⟨Nat.lt_of_lt_of_le hst.1.vo.vol.vlt b,Nat.lt_of_lt_of_le hst.1.vo.vol.tlt b,Nat.lt_of_lt_of_le (Nat.lt_of_lt_of_le HZS.out.2.2 hst.2.size) b⟩) (by have:=hst.1.vo.vol.vlt;have:=hst.1.vo.vol.tlt;have:=Nat.lt_of_lt_of_le HZS.out.2.2 hst.2.size;omega)) (fun hHeld=>?_)
  clear hK K
  refine tk 17 6 ?_
  refine wpAnyH_done (by kernel_rfl) ?_ _
  have hbz:Below w1.heap.size w1 (w1.alloc (.cells #[.int .i64 0,.int .i64 0,.slice none 0 0] 190)):=(Below.refl _ _).alloc (Nat.le_refl _) _
  have hsz:=Nat.lt_of_lt_of_le HZS.out.2.2 hst.2.size
  have hmv:Sh.Moves (AllV J F) w (AllV J F) (w1.alloc (.cells #[.int .i64 0,.int .i64 0,.slice none 0 0] 190)):=((moves_grown HV0.out.2).trans (⟨hst.2,fun _ e=>.inl e⟩:Sh.Moves (AllV J F) w0.drew (AllV J F) w1)).trans (moves_grown hbz)
  have hgoA:∀a,y=0->A=some a->a.block<w1.heap.size:=fun a e ha=>by
   obtain ⟨ad,e2,e3,_⟩:=(hgo e).2.2.2.1.2 (by decide)
   rw [ha] at e2
   injection e2 with e2
   rw [e2]
   exact e3
  have HRS:=hid (rps_store (J:=J) (w:=w) (s:=s) (o:=o) (S:=S) (F:=F) (D:=D) (U:=U) (h:=V S d (dataOf (2+2*k))) (l:=V S d (dataOf (3+2*k))) (y:=y) (d:=d) (k:=k) (r:=w1.heap.size) (x0:=x0) (x1:=x1) (A:=A) (n:=n) (c:=c) (S1:=S1) (w2:=w1.alloc (.cells #[.int .i64 0,.int .i64 0,.slice none 0 0] 190)) hsm (hst.1.grown hbz) hmv ⟨(hbz.block _ hsz).trans ((hst.2.block _ HZS.out.2.2 HN0.out.1).trans HQ0.out),HN0.out.1⟩ ⟨heap_alloc_new w1 _,fun e=>Nat.lt_irrefl _ (hst.1.lt _ e)⟩ (Nat.le_trans HLW.out (Nat.le_of_lt hsz)) (fun i hi=>by have:=HGN.out i hi;omega) (by omega) (fun e=>⟨(hgo e).1,(hgo e).2.1,(hgo e).2.2.1,bytes_only (bytes_from (hgo e).2.2.2 (Nat.le_of_lt HZS.out.2.2)) (fun a ha h2=>absurd h2 (fun h3=>h3)) (only_below (fun _=>False) hbz)⟩) (fun a e ha=>by have:=hgoA a e ha;omega) (by omega))
  generalize w1.heap.size=r at *
  generalize hw3:(w1.alloc (.cells #[.int .i64 0,.int .i64 0,.slice none 0 0] 190)).setRow r #[.int .i64 x0,.int .i64 x1,.slice A n c]=w3 at *
  clear hw3 hst hgo hbz hsz hmv hgoA hHeld
  clear j0 j1 j2 j3 HGA HGB HBA HS0
  obtain ⟨k0,k1,k2,_⟩:=cells3_of HRS.out.r.1
  obtain ⟨s0,s1,_,_⟩:=two_cells HRS.out.q.1
  have HLT:Hid (J.v<w3.drew.heap.size/\w.heap.size<w3.drew.heap.size):=hid ⟨HRS.out.vr.vo.vol.vlt,lt_of_block HRS.out.q.1⟩
  have HNE:Hid (J.v≠J.mu/\w.heap.size≠J.mu):=hid ⟨fun e=>HRS.out.vr.ne.2.2.2.2.1 e.symm,fun e=>HRS.out.q.2 (.inr (.inr (.inr (.inr e))))⟩
  have hS6:S6 J w.heap.size d k w3.drew:=⟨cell_of_row _ _ 12 _ _ _ HRS.out.vr.vo.vol.root,s0,s1⟩
  have HS6:=hid hS6
  have j12:=fun (W':World) (h:S6 J w.heap.size d k W')=>h.1
  have jq0:=fun (W':World) (h:S6 J w.heap.size d k W')=>h.2.1
  have jq1:=fun (W':World) (h:S6 J w.heap.size d k W')=>h.2.2
  clear hS6
  have hput:∀(w4:World),w4.ownsMap Tryz.prog 155 (unitElem (H:=Unit)) J.mu (Maps.size U+1) (U.put (slotKey d k) one0)->w3.drew.mapTurned w4 J.mu->∃F4,Vr J w4 s o S1 F4 D (U.put (slotKey d k) one0)/\Sh.Moves (AllV J F) w3 (AllV J F4) w4:=fun w4 hs4 ht4=>by
   obtain ⟨F4,V4,m4⟩:=(HRS.out.vr.grown (drew_below w3)).turnUsed ht4 hs4
   exact ⟨F4,V4,(moves_grown (drew_below w3)).trans m4⟩
  have HPUT:=hid hput
  clear hput
  by_cases h0:y=0
  ·subst h0
   clear k0 k1 k2 s0 s1
   go_wp2
   refine wp_region_held_drew (S:=S6 J w.heap.size d k) (by kernel_rfl) HS6.out (fun hHeld=>?_)
   refine tk 0 25 ?_
   refine tk 1 26 ?_
   refine tk 2 27 ?_
   refine tk 3 28 ?_
   refine tk 4 29 ?_
   refine tk 5 30 ?_
   refine r1 6 none fun K hK=>?_
   rw [if_pos (by rfl)]
   refine wp_put_slot _ _ _ rfl rfl rfl rfl HRS.out.vr.used.drew (by have:=HH.out.2.2.2;unfold maxLen;omega) (key_slot d k hd2 hk2) ?_
   intro w4 hs4 ht4
   refine hK.out _ _ (s6_turn hHeld ht4 HLT.out HNE.out) (fun hHeld=>?_)
   clear hK K
   refine wpAnyH_done (by kernel_rfl) ?_ _
   obtain ⟨e0,e1,e2,hby⟩:=HRS.out.got rfl
   subst e2
   obtain ⟨F4,V4,m4⟩:=HPUT.out w4 hs4 ht4
   obtain ⟨hr4,hrn4⟩:=beside_goes HRS.out.r.1 HRS.out.r.2 m4
   obtain ⟨hq4,hqn4⟩:=beside_goes HRS.out.q.1 HRS.out.q.2 m4
   obtain ⟨k0,k1,k2,_⟩:=cells3_of hr4
   obtain ⟨s0,s1,_,_⟩:=two_cells hq4
   have hbs:=(HH.out.1.beside_new hby).moves m4
   have hwt:∀x∈S1.disks,x.waits.length<=mm:=by rw [HRS.out.same.disks];exact HH.out.2.2.1
   have HRD:=hid (redo_all V4 (HH.out.2.1.same HRS.out.same.len HRS.out.same.sectors) hT hTB hP hPB d x0 x1 (c:=c) HSE.out hbs hwt hmm)
   have HM4:=hid (HRS.out.mv.trans m4)
   have HE:=hid (And.intro e0 e1)
   clear V4 m4 hr4 hrn4 hq4 hqn4 hbs hwt hby hHeld hs4 ht4 e0 e1 j12 jq0 jq1
   go_wp2_with fail
   refine HRD.out.mono ?_
   rintro e w5 ⟨y5,t5,rfl,hR,F5,V5,m5⟩
   have HR5:=hid (And.intro hR (And.intro V5 m5))
   clear hR V5 m5 HRD k0 k1 k2 s0 s1
   go_wp2
   go_ret
   refine ⟨y5,t5,_,rfl,.got S1 y5 t5 HRS.out.same HY.out ?_,F5,HR5.out.2.1,HM4.out.trans HR5.out.2.2⟩
   rw [<- HE.out.1,<- HE.out.2]
   exact HR5.out.1
  ·by_cases h5:y=5
   ·subst h5
    clear k0 k1 k2 s0 s1 h0
    go_wp2
    refine wp_region_held_drew (S:=S6 J w.heap.size d k) (by kernel_rfl) HS6.out (fun hHeld=>?_)
    refine tk 0 39 ?_
    refine tk 1 40 ?_
    refine tk 2 41 ?_
    refine tk 3 42 ?_
    refine tk 4 43 ?_
    refine tk 5 44 ?_
    refine r1 6 none fun K hK=>?_
    rw [if_pos (by rfl)]
    refine wp_put_slot _ _ _ rfl rfl rfl rfl HRS.out.vr.used.drew (by have:=HH.out.2.2.2;unfold maxLen;omega) (key_slot d k hd2 hk2) ?_
    intro w4 hs4 ht4
    refine hK.out _ _ (s6_turn hHeld ht4 HLT.out HNE.out) (fun hHeld=>?_)
    clear hK K
    refine wpAnyH_done (by kernel_rfl) ?_ _
    obtain ⟨F4,V4,m4⟩:=HPUT.out w4 hs4 ht4
    have HR5:=hid (And.intro V4 m4)
    clear V4 m4 hHeld hs4 ht4 j12 jq0 jq1
    go_wp2
    go_ret
    exact ⟨0,⟨S1,o⟩,_,rfl,.bad S1 HRS.out.same (.inl HY.out),F4,HR5.out.1,HRS.out.mv.trans HR5.out.2⟩
   ·by_cases h8:y=8
    ·subst h8
     clear k0 k1 k2 s0 s1 h0 h5
     go_wp2
     refine wp_region_held_drew (S:=S6 J w.heap.size d k) (by kernel_rfl) HS6.out (fun hHeld=>?_)
     refine tk 0 39 ?_
     refine tk 1 40 ?_
     refine tk 2 41 ?_
     refine tk 3 42 ?_
     refine tk 4 43 ?_
     refine tk 5 44 ?_
     refine r1 6 none fun K hK=>?_
     rw [if_pos (by rfl)]
     refine wp_put_slot _ _ _ rfl rfl rfl rfl HRS.out.vr.used.drew (by have:=HH.out.2.2.2;unfold maxLen;omega) (key_slot d k hd2 hk2) ?_
     intro w4 hs4 ht4
     refine hK.out _ _ (s6_turn hHeld ht4 HLT.out HNE.out) (fun hHeld=>?_)
     clear hK K
     refine wpAnyH_done (by kernel_rfl) ?_ _
     obtain ⟨F4,V4,m4⟩:=HPUT.out w4 hs4 ht4
     have HR5:=hid (And.intro V4 m4)
     clear V4 m4 hHeld hs4 ht4 j12 jq0 jq1
     go_wp2
     go_ret
     exact ⟨0,⟨S1,o⟩,_,rfl,.bad S1 HRS.out.same (.inr HY.out),F4,HR5.out.1,HRS.out.mv.trans HR5.out.2⟩
    ·have q0:(y == 0)=false:=by simpa using h0
     have q5:(y == 5)=false:=by simpa using h5
     have q8:(y == 8)=false:=by simpa using h8
     by_cases h7:y=7
     ·subst h7
      clear k0 k1 k2 s0 s1 q0 q5 q8 h0 h5 h8
      go_wp2
      go_ret
      exact ⟨0,⟨S1,o⟩,_,rfl,.none S1 HRS.out.same HY.out,F,HRS.out.vr,HRS.out.mv⟩
     ·have q7:(y == 7)=false:=by simpa using h7
      have HBD:=hid (butDead_any y w3)
      have HNN:=hid (And.intro h0 (And.intro h5 (And.intro h8 h7)))
      clear k0 k1 k2 s0 s1 h0 h5 h8 h7
      go_wp2_with (go_at_call 92;refine HBD.out.mono ?_;rintro e w' ⟨rfl,rfl⟩)
      go_ret
      refine ⟨bd y,⟨S1,o⟩,_,rfl,?_,F,HRS.out.vr,HRS.out.mv⟩
      have hn:=RpR.no (LL:=J.L) (s:=s) (M:=M) (St:=St) (U:=U) (S:=S) (o:=o) (d:=d) (k:=k) S1 HRS.out.same (by rw [HY.out];exact HNN.out.1) (by rw [HY.out];exact HNN.out.2.1) (by rw [HY.out];exact HNN.out.2.2.1) (by rw [HY.out];exact HNN.out.2.2.2)
      rw [HY.out] at hn
      exact hn
 ·rw [if_pos (by rfl)]
  go_simp
  refine hK.out _ _ (srp_below hHeld HZS.out HBA.out) (fun hHeld=>?_)
  clear hK K
  try simp only [Act.put,List.setIfInBounds_toArray,List.set_cons_zero,List.set_cons_succ]
  refine r1 11 (some 19) fun K hK=>?_
  go_simp
  refine HGB.out.mono ?_
  rintro e w2 ⟨x0,x1,A,n,c,rfl,S1,hsm,hst,hgo⟩
  refine hK.out _ _ (⟨(hst.1.vo.vol.c10),hst.1.vo.vol.log hd,(hst.2.cell (p:=⟨w.heap.size,0,none⟩) (Nat.lt_of_lt_of_le HZS.out.2.2 HBA.out.size) HN0.out.1).trans hHeld.2.2.1,(hst.2.cell (p:=⟨w.heap.size,1,none⟩) (Nat.lt_of_lt_of_le HZS.out.2.2 HBA.out.size) HN0.out.1).trans hHeld.2.2.2⟩) (fun hHeld=>?_)
  clear hK K
  try simp only [Act.put,List.setIfInBounds_toArray,List.set_cons_zero,List.set_cons_succ]
  refine tk 12 7 ?_
  refine tk 13 20 ?_
  refine tk 14 21 ?_
  have hrN:¬AllV J F w0.drew.heap.size:=fun e=>Nat.lt_irrefl _ (HV0.out.1.lt _ e)
  have hrl:w0.drew.heap.size<(w0.drew.alloc (.cells #[.int .i64 0,.int .i64 0,.slice none 0 0] 190)).heap.size:=by simp
  have hrow:w2.heap[w0.heap.size]?=some (.cells #[.int .i64 0,.int .i64 0,.slice none 0 0] 190 (0,0)):=(hst.2.block w0.drew.heap.size hrl hrN).trans (heap_alloc_new w0.drew _)
  refine r1 16 none fun K hK=>?_
  rw [if_pos (by rfl)]
  refine wp_store_row 190 _ _ rfl (w0.heap.size) (#[.int .i64 x0,.int .i64 x1,.slice A n c]) rfl rfl 190 _ hrow info_rec rfl (by simp [Value.oneCell']) ?_
  refine hK.out _ _ (srp_set hHeld ⟨hst.1.vo.vol.vlt,hst.1.vo.vol.tlt,Nat.lt_of_lt_of_le (Nat.lt_of_lt_of_le HZS.out.2.2 HBA.out.size) hst.2.size⟩ ⟨Nat.ne_of_lt HZS.out.1,Nat.ne_of_lt HZS.out.2.1,Nat.ne_of_lt HZS.out.2.2⟩) (fun hHeld=>?_)
  clear hK K
  refine tk 17 6 ?_
  refine wpAnyH_done (by kernel_rfl) ?_ _
  have hsz:w.heap.size<w0.heap.size:=HZS.out.2.2
  have hrl2:w0.heap.size<(w0.drew.alloc (.cells #[.int .i64 0,.int .i64 0,.slice none 0 0] 190)).heap.size:=hrl
  have hmv:Sh.Moves (AllV J F) w (AllV J F) w2:=((moves_grown HV0.out.2).trans (moves_grown HBA.out)).trans ⟨hst.2,fun _ e=>.inl e⟩
  have HRS:=hid (rps_store (J:=J) (w:=w) (s:=s) (o:=o) (S:=S) (F:=F) (D:=D) (U:=U) (h:=V S d (dataOf (2+2*k))) (l:=V S d (dataOf (3+2*k))) (y:=y) (d:=d) (k:=k) (r:=w0.heap.size) (x0:=x0) (x1:=x1) (A:=A) (n:=n) (c:=c) (S1:=S1) (w2:=w2) hsm hst.1 hmv ⟨(hst.2.block _ (Nat.lt_of_lt_of_le hsz HBA.out.size) HN0.out.1).trans ((HBA.out.block _ hsz).trans HQ0.out),HN0.out.1⟩ ⟨hrow,hrN⟩ (Nat.le_trans HLW.out (Nat.le_of_lt hsz)) (fun i hi=>by have:=HGN.out i hi;omega) (by omega) (fun e=>⟨(hgo e).1,(hgo e).2.1,(hgo e).2.2.1,bytes_from (hgo e).2.2.2 (Nat.le_trans (Nat.le_of_lt hsz) HBA.out.size)⟩) (fun a e ha=>by have:=((hgo e).2.2.2.2 a ha).1;omega) (by omega))
  generalize w0.heap.size=r at *
  generalize hw3:w2.setRow r #[.int .i64 x0,.int .i64 x1,.slice A n c]=w3 at *
  clear hw3 hst hgo hsz hmv hHeld hrN hrl hrl2 hrow
  clear j0 j1 j2 j3 HGA HGB HBA HS0
  obtain ⟨k0,k1,k2,_⟩:=cells3_of HRS.out.r.1
  obtain ⟨s0,s1,_,_⟩:=two_cells HRS.out.q.1
  have HLT:Hid (J.v<w3.drew.heap.size/\w.heap.size<w3.drew.heap.size):=hid ⟨HRS.out.vr.vo.vol.vlt,lt_of_block HRS.out.q.1⟩
  have HNE:Hid (J.v≠J.mu/\w.heap.size≠J.mu):=hid ⟨fun e=>HRS.out.vr.ne.2.2.2.2.1 e.symm,fun e=>HRS.out.q.2 (.inr (.inr (.inr (.inr e))))⟩
  have hS6:S6 J w.heap.size d k w3.drew:=⟨cell_of_row _ _ 12 _ _ _ HRS.out.vr.vo.vol.root,s0,s1⟩
  have HS6:=hid hS6
  have j12:=fun (W':World) (h:S6 J w.heap.size d k W')=>h.1
  have jq0:=fun (W':World) (h:S6 J w.heap.size d k W')=>h.2.1
  have jq1:=fun (W':World) (h:S6 J w.heap.size d k W')=>h.2.2
  clear hS6
  have hput:∀(w4:World),w4.ownsMap Tryz.prog 155 (unitElem (H:=Unit)) J.mu (Maps.size U+1) (U.put (slotKey d k) one0)->w3.drew.mapTurned w4 J.mu->∃F4,Vr J w4 s o S1 F4 D (U.put (slotKey d k) one0)/\Sh.Moves (AllV J F) w3 (AllV J F4) w4:=fun w4 hs4 ht4=>by
   obtain ⟨F4,V4,m4⟩:=(HRS.out.vr.grown (drew_below w3)).turnUsed ht4 hs4
   exact ⟨F4,V4,(moves_grown (drew_below w3)).trans m4⟩
  have HPUT:=hid hput
  clear hput
  by_cases h0:y=0
  ·subst h0
   clear k0 k1 k2 s0 s1
   go_wp2
   refine wp_region_held_drew (S:=S6 J w.heap.size d k) (by kernel_rfl) HS6.out (fun hHeld=>?_)
   refine tk 0 25 ?_
   refine tk 1 26 ?_
   refine tk 2 27 ?_
   refine tk 3 28 ?_
   refine tk 4 29 ?_
   refine tk 5 30 ?_
   refine r1 6 none fun K hK=>?_
   rw [if_pos (by rfl)]
   refine wp_put_slot _ _ _ rfl rfl rfl rfl HRS.out.vr.used.drew (by have:=HH.out.2.2.2;unfold maxLen;omega) (key_slot d k hd2 hk2) ?_
   intro w4 hs4 ht4
   refine hK.out _ _ (s6_turn hHeld ht4 HLT.out HNE.out) (fun hHeld=>?_)
   clear hK K
   refine wpAnyH_done (by kernel_rfl) ?_ _
   obtain ⟨e0,e1,e2,hby⟩:=HRS.out.got rfl
   subst e2
   obtain ⟨F4,V4,m4⟩:=HPUT.out w4 hs4 ht4
   obtain ⟨hr4,hrn4⟩:=beside_goes HRS.out.r.1 HRS.out.r.2 m4
   obtain ⟨hq4,hqn4⟩:=beside_goes HRS.out.q.1 HRS.out.q.2 m4
   obtain ⟨k0,k1,k2,_⟩:=cells3_of hr4
   obtain ⟨s0,s1,_,_⟩:=two_cells hq4
   have hbs:=(HH.out.1.beside_new hby).moves m4
   have hwt:∀x∈S1.disks,x.waits.length<=mm:=by rw [HRS.out.same.disks];exact HH.out.2.2.1
   have HRD:=hid (redo_all V4 (HH.out.2.1.same HRS.out.same.len HRS.out.same.sectors) hT hTB hP hPB d x0 x1 (c:=c) HSE.out hbs hwt hmm)
   have HM4:=hid (HRS.out.mv.trans m4)
   have HE:=hid (And.intro e0 e1)
   clear V4 m4 hr4 hrn4 hq4 hqn4 hbs hwt hby hHeld hs4 ht4 e0 e1 j12 jq0 jq1
   go_wp2_with fail
   refine HRD.out.mono ?_
   rintro e w5 ⟨y5,t5,rfl,hR,F5,V5,m5⟩
   have HR5:=hid (And.intro hR (And.intro V5 m5))
   clear hR V5 m5 HRD k0 k1 k2 s0 s1
   go_wp2
   go_ret
   refine ⟨y5,t5,_,rfl,.got S1 y5 t5 HRS.out.same HY.out ?_,F5,HR5.out.2.1,HM4.out.trans HR5.out.2.2⟩
   rw [<- HE.out.1,<- HE.out.2]
   exact HR5.out.1
  ·by_cases h5:y=5
   ·subst h5
    clear k0 k1 k2 s0 s1 h0
    go_wp2
    refine wp_region_held_drew (S:=S6 J w.heap.size d k) (by kernel_rfl) HS6.out (fun hHeld=>?_)
    refine tk 0 39 ?_
    refine tk 1 40 ?_
    refine tk 2 41 ?_
    refine tk 3 42 ?_
    refine tk 4 43 ?_
    refine tk 5 44 ?_
    refine r1 6 none fun K hK=>?_
    rw [if_pos (by rfl)]
    refine wp_put_slot _ _ _ rfl rfl rfl rfl HRS.out.vr.used.drew (by have:=HH.out.2.2.2;unfold maxLen;omega) (key_slot d k hd2 hk2) ?_
    intro w4 hs4 ht4
    refine hK.out _ _ (s6_turn hHeld ht4 HLT.out HNE.out) (fun hHeld=>?_)
    clear hK K
    refine wpAnyH_done (by kernel_rfl) ?_ _
    obtain ⟨F4,V4,m4⟩:=HPUT.out w4 hs4 ht4
    have HR5:=hid (And.intro V4 m4)
    clear V4 m4 hHeld hs4 ht4 j12 jq0 jq1
    go_wp2
    go_ret
    exact ⟨0,⟨S1,o⟩,_,rfl,.bad S1 HRS.out.same (.inl HY.out),F4,HR5.out.1,HRS.out.mv.trans HR5.out.2⟩
   ·by_cases h8:y=8
    ·subst h8
     clear k0 k1 k2 s0 s1 h0 h5
     go_wp2
     refine wp_region_held_drew (S:=S6 J w.heap.size d k) (by kernel_rfl) HS6.out (fun hHeld=>?_)
     refine tk 0 39 ?_
     refine tk 1 40 ?_
     refine tk 2 41 ?_
     refine tk 3 42 ?_
     refine tk 4 43 ?_
     refine tk 5 44 ?_
     refine r1 6 none fun K hK=>?_
     rw [if_pos (by rfl)]
     refine wp_put_slot _ _ _ rfl rfl rfl rfl HRS.out.vr.used.drew (by have:=HH.out.2.2.2;unfold maxLen;omega) (key_slot d k hd2 hk2) ?_
     intro w4 hs4 ht4
     refine hK.out _ _ (s6_turn hHeld ht4 HLT.out HNE.out) (fun hHeld=>?_)
     clear hK K
     refine wpAnyH_done (by kernel_rfl) ?_ _
     obtain ⟨F4,V4,m4⟩:=HPUT.out w4 hs4 ht4
     have HR5:=hid (And.intro V4 m4)
     clear V4 m4 hHeld hs4 ht4 j12 jq0 jq1
     go_wp2
     go_ret
     exact ⟨0,⟨S1,o⟩,_,rfl,.bad S1 HRS.out.same (.inr HY.out),F4,HR5.out.1,HRS.out.mv.trans HR5.out.2⟩
    ·have q0:(y == 0)=false:=by simpa using h0
     have q5:(y == 5)=false:=by simpa using h5
     have q8:(y == 8)=false:=by simpa using h8
     by_cases h7:y=7
     ·subst h7
      clear k0 k1 k2 s0 s1 q0 q5 q8 h0 h5 h8
      go_wp2
      go_ret
      exact ⟨0,⟨S1,o⟩,_,rfl,.none S1 HRS.out.same HY.out,F,HRS.out.vr,HRS.out.mv⟩
     ·have q7:(y == 7)=false:=by simpa using h7
      have HBD:=hid (butDead_any y w3)
      have HNN:=hid (And.intro h0 (And.intro h5 (And.intro h8 h7)))
      clear k0 k1 k2 s0 s1 h0 h5 h8 h7
      go_wp2_with (go_at_call 92;refine HBD.out.mono ?_;rintro e w' ⟨rfl,rfl⟩)
      go_ret
      refine ⟨bd y,⟨S1,o⟩,_,rfl,?_,F,HRS.out.vr,HRS.out.mv⟩
      have hn:=RpR.no (LL:=J.L) (s:=s) (M:=M) (St:=St) (U:=U) (S:=S) (o:=o) (d:=d) (k:=k) S1 HRS.out.same (by rw [HY.out];exact HNN.out.1) (by rw [HY.out];exact HNN.out.2.1) (by rw [HY.out];exact HNN.out.2.2.1) (by rw [HY.out];exact HNN.out.2.2.2)
      rw [HY.out] at hn
      exact hn
end
inductive RpSteps (LL:Nat) (s:SuP) (M St:Nat):List (Nat × Nat)->Stt->Set0->Stt->Set0->Prop
 | nil (a:Stt) (U:Set0):RpSteps LL s M St [] a U a U
 | snoc {l:List (Nat × Nat)} {d k:Nat} {a b c:Stt} {U U1 U2:Set0}:RpSteps LL s M St l a U b U1->RpR LL s M St U1 b.S b.o d k 0 c U2->RpSteps LL s M St (l++[(d,k)]) a U c U2
def RplR (n LL:Nat) (s:SuP) (M St:Nat) (a:Stt) (U:Set0) (y:Int) (b:Stt) (U':Set0):Prop :=
 (y=0/\RpSteps LL s M St (slotsTo LL n 0) a U b U')\/(y≠0/\∃j k c U1,j<n/\k<LL/\RpSteps LL s M St (slotsTo LL j k) a U c U1/\RpR LL s M St U1 c.S c.o j k y b U')
theorem MkS.len {S:Sh.Sf} {o:Nat->Int} {d k:Nat} {b:Sh.Bs} {y:Int} {e:Stt} (h:MkS S o d k b y e):e.S.disks.length=S.disks.length/\e.S.sectors=S.sectors:=by
 rcases h with ⟨_,_,_,rfl⟩ | ⟨_,z,S',hD,rfl⟩
 ·exact ⟨by show (Looked S d).disks.length=_;rw [looked_disks],looked_sectors S d⟩
 ·exact ⟨hD.len.trans (by rw [looked_disks]),hD.sectors.trans (looked_sectors S d)⟩
theorem MkS.waits {S:Sh.Sf} {o:Nat->Int} {d k m:Nat} {b:Sh.Bs} {y:Int} {e:Stt} (h:MkS S o d k b y e) (hL:∀x∈S.disks,x.waits.length<=m):∀x∈e.S.disks,x.waits.length<=m+3:=by
 have h0:=looked_waits (d:=d) hL
 rcases h with ⟨_,_,_,rfl⟩ | ⟨_,z,S',hD,rfl⟩
 ·intro x hx;have:=h0 x hx;omega
 ·exact hD.waits h0
theorem RedoR.len {LL M St nr rs rp:Nat} {s:SuP} {l:Sh.Bs} {S:Sh.Sf} {o:Nat->Int} {y:Int} {t:Stt} (h:RedoR LL s M St nr rs rp l S o y t):t.S.disks.length=S.disks.length/\t.S.sectors=S.sectors:=by
 cases h with
 | beyond=>exact ⟨rfl,rfl⟩
 | other=>exact ⟨rfl,rfl⟩
 | lack=>exact ⟨by show (Looked S _).disks.length=_;rw [looked_disks],looked_sectors S _⟩
 | done y t _ _ _ _ hm=>exact ⟨hm.len.1.trans (by rw [looked_disks]),hm.len.2.trans (looked_sectors S _)⟩
theorem RedoR.waits {LL M St nr rs rp m:Nat} {s:SuP} {l:Sh.Bs} {S:Sh.Sf} {o:Nat->Int} {y:Int} {t:Stt} (h:RedoR LL s M St nr rs rp l S o y t) (hL:∀x∈S.disks,x.waits.length<=m):∀x∈t.S.disks,x.waits.length<=m+3:=by
 have h1:∀x∈S.disks,x.waits.length<=m+3:=fun x hx=>by have:=hL x hx;omega
 cases h with
 | beyond=>exact h1
 | other=>exact h1
 | lack=>exact looked_waits h1
 | done y t _ _ _ _ hm=>exact hm.waits (looked_waits hL)
section
variable {LL M St d k m:Nat} {s:SuP} {U U':Set0} {S:Sh.Sf} {o:Nat->Int} {y:Int} {t:Stt}
theorem RpR.len (h:RpR LL s M St U S o d k y t U'):t.S.disks.length=S.disks.length/\t.S.sectors=S.sectors:=by
 cases h with
 | got S1 y t hs _ hr=>exact ⟨hr.len.1.trans hs.len,hr.len.2.trans hs.sectors⟩
 | bad S1 hs _=>exact ⟨hs.len,hs.sectors⟩
 | none S1 hs _=>exact ⟨hs.len,hs.sectors⟩
 | no S1 hs _ _ _ _=>exact ⟨hs.len,hs.sectors⟩
theorem RpR.waits (h:RpR LL s M St U S o d k y t U') (hL:∀x∈S.disks,x.waits.length<=m):∀x∈t.S.disks,x.waits.length<=m+3:=by
 have h1:∀x∈S.disks,x.waits.length<=m+3:=fun x hx=>by have:=hL x hx;omega
 cases h with
 | got S1 y t hs _ hr=>exact hr.waits (by rw [hs.disks];exact hL)
 | bad S1 hs _=>show ∀x∈S1.disks,_;rw [hs.disks];exact h1
 | none S1 hs _=>show ∀x∈S1.disks,_;rw [hs.disks];exact h1
 | no S1 hs _ _ _ _=>show ∀x∈S1.disks,_;rw [hs.disks];exact h1
theorem RpR.uses (h:RpR LL s M St U S o d k y t U'):U'=U\/U'=U.put (slotKey d k) one0:=by
 cases h with
 | got=>exact .inr rfl
 | bad=>exact .inr rfl
 | none=>exact .inl rfl
 | no=>exact .inl rfl
theorem RpSteps.len {l:List (Nat × Nat)} {a b:Stt} (h:RpSteps LL s M St l a U b U'):b.S.disks.length=a.S.disks.length/\b.S.sectors=a.S.sectors:=by
 induction h with
 | nil=>exact ⟨rfl,rfl⟩
 | snoc _ h2 ih=>exact ⟨h2.len.1.trans ih.1,h2.len.2.trans ih.2⟩
theorem RpSteps.waits {l:List (Nat × Nat)} {a b:Stt} (h:RpSteps LL s M St l a U b U') (hL:∀x∈a.S.disks,x.waits.length<=m):∀x∈b.S.disks,x.waits.length<=m+3*l.length:=by
 induction h with
 | nil=>simpa using hL
 | snoc _ h2 ih =>
  intro x hx
  have:=h2.waits (ih hL) x hx
  simp only [List.length_append,List.length_singleton]
  omega
end
section
variable {J:Vk} {w w':World} {s:SuP} {o:Nat->Int} {S:Sh.Sf} {F:Nat->Prop} {D U:Set0} {M St:Nat}
def RplRel (J:Vk) (w:World) (s:SuP) (o:Nat->Int) (S:Sh.Sf) (F:Nat->Prop) (D U:Set0) (M St u0 j k:Nat) (wr:World):Prop :=
 ∃(b:Stt) (U1:Set0) (F1:Nat->Prop),RpSteps J.L s M St (slotsTo J.L j k) ⟨S,o⟩ U b U1/\Vr J wr s b.o b.S F1 D U1/\Sh.Moves (AllV J F) w (AllV J F1) wr/\Maps.size U1<=u0+(j*J.L+k)
def RplQ (J:Vk) (w:World) (s:SuP) (o:Nat->Int) (S:Sh.Sf) (F:Nat->Prop) (D U:Set0) (M St:Nat) (e:Ending) (w':World):Prop :=
 ∃(y:Int) (t:Stt) (U':Set0),e=.returned (.int .i64 y)/\RplR J.n J.L s M St ⟨S,o⟩ U y t U'/\RGoes J w w' s t.o t.S F D U'/\(y=0->Maps.size U'<=900200)
set_option maxRecDepth 20000 in
set_option maxHeartbeats 1600000 in
theorem replay_any (h:Vr J w s o S F D U) (hf:Fits J.n J.L s M St S) (hT:Tabs J.W) (hTB:max 0 1+1<=J.B) (hFl:Flds J.W) (hFB:4+1<=J.B) (hP:Go.Proofs.YtepoepmndckmaaaGreatDoor.L.Tab J.W) (hPB:3+1<=J.B) {mm u0:Nat} (hL:∀x∈S.disks,x.waits.length<=mm) (hmm:mm<=800000000) (hU:Maps.size U<=u0) (hu0:u0<=900000) :
  Calls Tryz.prog 61 #[.pointer (some ⟨J.v,0,none⟩)] w (RplQ J w s o S F D U M St):=by
 have h17:J.n<=17:=by
  obtain ⟨D0,gs,q⟩:=h.vo.ds.on.shelf
  have:=q.most
  have:=hf.len
  omega
 have hL8:=hf.l2
 have HF:=hid hf
 have HL:=hid hL
 have c10:=h.vo.vol.c10
 have hrel0:Hid (RplRel J w s o S F D U M St u0 0 0 w):=hid ⟨⟨S,o⟩,U,F,.nil _ _,h,moves_grown (Below.refl _ _),by omega⟩
 have HLG:=hid hf.logs
 clear h hf hL hU
 go_enter Tryz.func61,Tryz.ntmps61
 go_wp2
 clear c10
 go_loopw [11] (fun i wr=>∃j:Nat,j<=J.n/\i=.int .i64 j/\Hid (RplRel J w s o S F D U M St u0 j 0 wr)) (fun i _=>J.n-(intOf i).toNat)
 case atStart=>exact ⟨0,Nat.zero_le _,rfl,hrel0⟩
 case round =>
  obtain ⟨j,hj,rfl,hrel⟩:=hrel
  by_cases hlt:j<J.n
  ·have c5:=(fun (x:RplRel J w s o S F D U M St u0 j 0 wr)=>(by
    obtain ⟨b0,U1,F1,_,V1,_⟩:=x
    have c5:=cell_of_row _ _ 5 _ _ _ V1.vo.vol.root
    simp only [List.getElem?_toArray,List.getElem?_cons_zero,List.getElem?_cons_succ,HLG.out] at c5
    exact c5:wr.cell? ⟨J.v,5,none⟩=some (.int .i64 (J.L:Nat)))) hrel.out
   have HRL:=hrel
   clear hrel hrel0
   go_wp2
   clear c5
   go_loopw [19] (fun i wr=>∃k:Nat,k<=J.L/\i=.int .i64 k/\Hid (RplRel J w s o S F D U M St u0 j k wr)) (fun i _=>J.L-(intOf i).toNat)
   case atStart=>exact ⟨0,Nat.zero_le _,rfl,HRL⟩
   case round =>
    obtain ⟨k,hk,rfl,hrel⟩:=hrel
    by_cases hkt:k<J.L
    ·obtain ⟨b,U1,F1,hst,V1,M1,hu⟩:=hrel.out
     have hsl:slotsTo J.L j (k+1)=slotsTo J.L j k++[(j,k)]:=slotsTo_succ _ _ _
     have hjl:(j+1)*J.L<=17*8:=Nat.mul_le_mul (by omega) hL8
     rw [Nat.succ_mul] at hjl
     have hwt:∀x∈b.S.disks,x.waits.length<=mm+408:=by
      intro x hx
      have:=hst.waits HL.out x hx
      rw [slotsTo_length] at this
      omega
     have HRS:=hid (replaySlot_any V1 (HF.out.same hst.len.1 hst.len.2) hT hTB hFl hFB hP hPB j k hlt hkt hwt (by omega) (by omega))
     have KEEP:=hid (And.intro hst (And.intro M1 (And.intro hu (And.intro V1 hsl))))
     clear hst V1 M1 hu hsl hjl hwt hrel
     go_wp2_with fail
     refine HRS.out.mono ?_
     rintro e w2 ⟨y,t,U2,rfl,hR,F2,V2,m2⟩
     obtain ⟨hst,M1,hu,V1,hsl⟩:=KEEP.out
     have hm2:=M1.trans m2
     have hu2:Maps.size U2<=u0+(j*J.L+(k+1)):=by
      rcases hR.uses with rfl | rfl
      ·omega
      ·have:=size_put_le V1.used lawSlot (kl:=slotKey j k)
       omega
     by_cases h0:y=0
     ·subst h0
      have HR:Hid (RplRel J w s o S F D U M St u0 j (k+1) w2):=hid ⟨t,U2,F2,by rw [hsl];exact hst.snoc hR,V2,hm2,hu2⟩
      clear hst M1 hu V1 hsl hm2 hu2 hR V2 m2 HRS KEEP
      go_wp2
      go_roundw
      case rel=>exact ⟨k+1,by omega,by go_num,HR⟩
      case measure=>simp [intOf];omega
     ·have hqq:(y == 0)=false:=by simpa using h0
      have HR:Hid (RplR J.n J.L s M St ⟨S,o⟩ U y t U2):=hid (.inr ⟨h0,j,k,b,U1,hlt,hkt,hst,hR⟩)
      have HG:Hid (Vr J w2 s t.o t.S F2 D U2/\Sh.Moves (AllV J F) w (AllV J F2) w2):=hid ⟨V2,hm2⟩
      have H0:=hid h0
      clear hst M1 hu V1 hsl hm2 hu2 hR V2 m2 HRS KEEP h0
      go_wp2
      go_ret
      exact ⟨y,t,U2,rfl,HR.out,⟨F2,HG.out.1,HG.out.2⟩,fun e=>absurd e H0.out⟩
    ·have hkL:k=J.L:=by omega
     rw [hkL] at hrel
     clear hkL
     obtain ⟨b,U1,F1,hst,V1,M1,hu⟩:=hrel.out
     have HR:Hid (RplRel J w s o S F D U M St u0 (j+1) 0 wr):=hid ⟨b,U1,F1,by rw [slotsTo_next];exact hst,V1,M1,by rw [Nat.succ_mul];omega⟩
     clear hst V1 M1 hu hrel HRL
     go_wp2
     go_roundw
     case rel=>exact ⟨j+1,by omega,by go_num,HR⟩
     case measure=>simp [intOf];omega
  ·obtain rfl:j=J.n:=by omega
   obtain ⟨b,U1,F1,hst,V1,M1,hsz⟩:=hrel.out
   have hjl:J.n*J.L<=17*8:=Nat.mul_le_mul h17 hL8
   have HSZ:Hid (Maps.size U1<=900200):=hid (by omega)
   have HST:=hid hst
   have HG:=hid (And.intro V1 M1)
   clear hst V1 M1 hrel hrel0 hsz hjl
   go_wp2
   go_ret
   exact ⟨0,b,U1,rfl,.inl ⟨rfl,HST.out⟩,⟨F1,HG.out.1,HG.out.2⟩,fun _=>HSZ.out⟩
end
end Go.Proofs.YtepoepmndckmaaaGreatDoor.U
