/-
  What the statement's proof rests on, part 46.
  Conditions: each theorem's own.
-/
import Derived.Test.YtcnjpmcelihknaaGreatDoorV43
import Derived.Test.YtcnjpmcelihknaaGreatDoorV31
import Derived.Test.YtcnjpmcelihknaaGreatDoorV45
open Go.Lib (hid)
namespace Go.Proofs.YtcnjpmcelihknaaGreatDoor.Kj
open Go.RowKit Go.Maps
open Go.Proofs.YtcnjpmcelihknaaGreatDoor.U (Vk Ar Giv Hv contR IsR Rs All10 arOf newSaid)
open Go.Proofs.YtcnjpmcelihknaaGreatDoor.Kc (stoK Hc IsC)
section
variable {J:Vk} {A:Ar}
theorem hc_hv (hG:Giv J A) (hN:A.St*(A.M-1)<=1073741824):Hc (Hv J A hG hN) (contR A) :=
 ⟨fun h=>h,fun h=>h,fun h=>h,fun _ h hm=>h.oi.fi.ci.ok.sec _ _ (Go.Proofs.YtcnjpmcelihknaaGreatDoor.U.st_lt h.oi.fi.ci.ar.m3 hm) (Go.Proofs.YtcnjpmcelihknaaGreatDoor.U.me_ok h.oi.fi.ci.ar.m3).1⟩
def stoH (hG:Giv J A) (hN:A.St*(A.M-1)<=65535) (c:Nat):StoK :=
 stoK (Hv J A hG (Nat.le_trans hN (by decide))) (contR A) (hc_hv hG _) c hN J.B J.W (fun h=>h.vr.bel) hG.tabs hG.tb
end
open Go.Proofs.YtcnjpmcelihknaaGreatDoor.U (Vk Ar Giv Hv contR IsR Rs All10 arOf newSaid gh0 said_new create_new)
open Go.Proofs.YtcnjpmcelihknaaGreatDoor.Kc (IsC AllC Cav)
structure DiskQ (S:StoK) (G:Jg) (w:World) (q:Nat) (O:Nat->Prop) (s:Js) (k:Nat):Prop where
 row:∃p:Nat,w.heap[q]?=some (.cells #[.pointer (some ⟨p,0,none⟩),.pointer (some ⟨S.c,0,none⟩),.pointer (some ⟨G.p,0,none⟩),.int .i64 (G.fi:Int)] 78 (0,0))
 jou:Jou S G w O s k
 nq:¬O q
def BegunD (w:World) (St:Nat) (e:Ending) (w':World):Prop :=
 ∃(S:StoK) (G:Jg) (q:Nat) (O:Nat->Prop) (s:Js),e=.returned (.pointer (some ⟨q,0,none⟩))/\DiskQ S G w' q O s 380000/\S.n=3*St/\G.fi=3*St-28/\G.le=28/\S.B=w.heap.size/\S.W=w/\s.R=[]/\(∀j,j<3*St-28->s.f j=Sh.noughts)/\w.heap.size<=q/\Below w.heap.size w w'
set_option maxRecDepth 20000 in
theorem begin12 {w:World} (hA:All10 w) (St:Nat) (h1:10<=St) (h2:St<=200):Calls Tryz.prog 44 #[.int .i64 (St:Int)] w (BegunD w St):=by
 have hblk:2+2*2+St<=Go.Proofs.YtcnjpmcelihknaaGreatDoor.U.blk (20+2*St):=by unfold Go.Proofs.YtcnjpmcelihknaaGreatDoor.U.blk;omega
 have HN:=hid (Sh.new_ok 4 (20+2*St) w (by decide) (by decide) (by omega) (by omega))
 have ha1:IntKind.i64.wrap (2*(St:Int))=2*(St:Int):=by rw [IntKind.wrap_i64];omega
 have ha2:IntKind.i64.wrap (20+2*(St:Int))=((20+2*St:Nat):Int):=by rw [IntKind.wrap_i64];omega
 have ha3:IntKind.i64.wrap (3*(St:Int))=3*(St:Int):=by rw [IntKind.wrap_i64];omega
 have ha4:IntKind.i64.wrap (3*(St:Int)-28)=((3*St-28:Nat):Int):=by rw [IntKind.wrap_i64];omega
 have HA:=hid hA
 have HST:=hid (And.intro h1 (And.intro h2 hblk))
 clear hA hblk
 go_enter Tryz.func44,Tryz.ntmps44
 go_wp2_with fail
 refine HN.out.mono ?_
 rintro e w1 ⟨p,F,rfl,hsh,hlow,hb1⟩
 have hat:Sh.At w.heap.size w w1 p (Sh.newSf 4 (20+2*St)) F:=⟨hsh,hlow,hb1,hb1.size⟩
 have HC:=hid (create_new hat HA.out.tabs HA.out.tabs.size HA.out.wid HA.out.wid.size 4 St 2 (by decide) (by decide) (by omega) (by omega) (by decide) (by decide) (.inl rfl) HST.out.2.2)
 clear hat hsh hlow hb1 HN
 go_wp2_with fail
 refine HC.out.mono ?_
 rintro e w2 ⟨J,F',o,S,rfl,e1,e2,e3,e4,e5,hV,hB,hmv⟩
 have hci:=hB.ci hV.vo.ds.on.shelf (by decide) (by decide) (by omega) (by decide) (by decide) (.inl rfl) HST.out.2.2
 have hG:Giv J (arOf (newSaid 4 St 2) 4 2 4 St):=⟨e4.symm,e5.symm,said_new (by decide) (by decide) (by omega) (by omega) (by decide) (by decide) (.inl rfl),by rw [e2];exact HA.out.tabs,by rw [e1];exact HA.out.tabs.size,by rw [e2];exact HA.out.fld,by rw [e1];exact HA.out.fld.size⟩
 have hI:IsR J (arOf (newSaid 4 St 2) 4 2 4 St) w2 ⟨S,o,F',Go.Proofs.YtcnjpmcelihknaaGreatDoor.U.noSet,Go.Proofs.YtcnjpmcelihknaaGreatDoor.U.noSet,gh0⟩ 390000:=⟨hV,hci.1,fun _ _ _ _ h=>h.elim,hci.2.1,100,⟨hB.waits,⟨tidy_empty,Nat.zero_le _⟩,Nat.zero_le _⟩,by decide⟩
 have hnn:(arOf (newSaid 4 St 2) 4 2 4 St).St*((arOf (newSaid 4 St 2) 4 2 4 St).M-1)=3*St:=by show St*(4-1)=3*St;omega
 have hN:(arOf (newSaid 4 St 2) 4 2 4 St).St*((arOf (newSaid 4 St 2) 4 2 4 St).M-1)<=65535:=by rw [hnn];omega
 have HB0:=hid (And.intro e1 e2)
 have HNEW:=hid (show Calls Tryz.prog 28 #[.pointer (some ⟨J.v,0,none⟩),.int .i64 30] w2 _ from Go.Proofs.YtcnjpmcelihknaaGreatDoor.Kc.cNew (V:=Hv J _ hG (Nat.le_trans hN (by decide))) (k:=390000) (most:=30) hI (by decide) (by decide))
 clear hci hI hV hB hmv HC
 generalize hA0:arOf (newSaid 4 St 2) 4 2 4 St=A0 at *
 clear hA0
 go_wp2_with fail
 refine HNEW.out.mono ?_
 rintro e w3 ⟨g,rfl,hc,_⟩
 have his:(stoH hG hN g.c).Is w3 (AllC (Hv J A0 hG (Nat.le_trans hN (by decide))) ⟨S,o,F',Go.Proofs.YtcnjpmcelihknaaGreatDoor.U.noSet,Go.Proofs.YtcnjpmcelihknaaGreatDoor.U.noSet,gh0⟩ g []) (fun _=>Sh.noughts) (fun _=>True) 390000 :=
  ⟨g,30,[],_,hc,rfl,rfl,⟨fun _ h=>absurd h (by simp),fun _ h=>absurd h (by simp),fun _ _=>rfl,fun _ h=>absurd h (by simp),List.nodup_nil⟩,fun _ h=>absurd h (by simp)⟩
 have hSc:(stoH hG hN g.c).c=g.c:=rfl
 have hSB:(stoH hG hN g.c).B=w.heap.size/\(stoH hG hN g.c).W=w:=HB0.out
 have hSn:(stoH hG hN g.c).n=3*St:=hnn
 generalize stoH hG hN g.c=SS at *
 generalize AllC (Hv J A0 hG (Nat.le_trans hN (by decide))) ⟨S,o,F',Go.Proofs.YtcnjpmcelihknaaGreatDoor.U.noSet,Go.Proofs.YtcnjpmcelihknaaGreatDoor.U.noSet,gh0⟩ g []=O3 at *
 rw [<- hSc]
 clear hc HNEW hSc
 have HF:=hid (jFormat (k:=389970) (3*St-28) 28 his (Nat.le_refl _) (by omega) (fun _ _ _=>trivial))
 have HS:=hid (And.intro hSB hSn)
 clear his hSB hSn
 go_wp2_with fail
 refine HF.out.mono ?_
 rintro e w4 ⟨O4,rfl,his,hmv⟩
 have hff:fmtF (fun _=>Sh.noughts) (3*St-28) 28 (3*St-28)=sealL headM 1 [0]:=fset_same _ _ _
 have hd:NoneAt (fmtF (fun _=>Sh.noughts) (3*St-28) 28 (placeN (3*St-28) 28 0 0)) 1:=by
  left
  rw [place0 (by decide)]
  unfold fmtF
  rw [fset_other _ _ (by omega)]
  unfold ringF
  rw [if_pos (by omega)]
  exact okD_noughts
 have HO:=hid (jOpen_fresh (k:=388860) (3*St-28) 28 1 0 his (Nat.le_refl _) (by have:=HS.out.2;omega) (fun _ _ _=>trivial) hff (Nat.le_refl _) (by decide) (by decide) hd)
 have hfs:∀j,j<3*St-28->fset (fmtF (fun _=>Sh.noughts) (3*St-28) 28) (3*St-28) (sealL headM (1+1) [0]) j=Sh.noughts:=fun j hj=>by
  rw [fset_other _ _ (by omega)]
  unfold fmtF
  rw [fset_other _ _ (by omega)]
  unfold ringF
  rw [if_neg (by omega)]
 have HFS:=hid hfs
 clear his hmv HF hff hd hfs
 generalize fset (fmtF (fun _=>Sh.noughts) (3*St-28) 28) (3*St-28) (sealL headM (1+1) [0])=f5 at *
 unfold OpenedJ at HO
 go_wp2_with fail
 refine HO.out.mono ?_
 rintro e w5 ⟨G,O5,rfl,eg1,eg2,hj,hmv⟩
 have HJ:=hid (And.intro eg1 (And.intro eg2 hj))
 clear eg1 eg2 hj hmv HO
 go_wp2
 go_ret
 have hb5:Below w5.heap.size w5 (w5.alloc (.cells #[.pointer (some ⟨p,0,none⟩),.pointer (some ⟨SS.c,0,none⟩),.pointer (some ⟨G.p,0,none⟩),.int .i64 ((3*St-28:Nat):Int)] 78)):=(Below.refl _ _).alloc (Nat.le_refl _) _
 have hj6:=HJ.out.2.2.grown hb5
 have hsz:w.heap.size<=w5.heap.size:=by have:=HJ.out.2.2.bel.size;rw [HS.out.1.2] at this;exact this
 refine ⟨SS,G,w5.heap.size,O5,_,rfl,⟨⟨p,by rw [HJ.out.1];exact heap_alloc_new w5 _⟩,hj6.less (by decide),fun e=>Nat.lt_irrefl _ (HJ.out.2.2.lt _ e)⟩,HS.out.2,HJ.out.1,HJ.out.2.1,HS.out.1.1,HS.out.1.2,rfl,HFS.out,hsz,?_⟩
 have hb6:=hj6.bel
 rw [HS.out.1.1,HS.out.1.2] at hb6
 exact hb6
end Go.Proofs.YtcnjpmcelihknaaGreatDoor.Kj
