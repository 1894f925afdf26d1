/-
  What the statement's proof rests on, part 35.
  Conditions: each theorem's own.
-/
import Derived.Test.YtcnjpmcelihknaaGreatDoorV33
import Derived.DeepKeys4
import Derived.Test.YtcnjpmcelihknaaGreatDoorVtk
open Go.Lib (hid)
open Go.Proofs.YtcnjpmcelihknaaGreatDoor.S renaming Sup → SuP
namespace Go.Proofs.YtcnjpmcelihknaaGreatDoor.U
open Go.RowKit Go.Maps
theorem laidOut_all:laidOutB Tryz.prog=true:=by kernel_rfl
theorem slot_row:(224:TypeId)<Tryz.prog.types.size:=of_decide_eq_true (by kernel_rfl)
theorem slot_wide:(match Tryz.prog.underlying 224 with | some (.array _ _) | some (.struct _)=>true | _=>false)=true:=by kernel_rfl
set_option maxRecDepth 20000 in
theorem lawSlot:Keyed Tryz.prog 224:=Keyed.of_law (deep_law_laid laidOut_all (m:=2) (by omega) slot_row (by kernel_rfl) slot_wide)
theorem lawInt2:Keyed Tryz.prog 3:=int_keyed Tryz.underlying3
theorem slot_keyType:Tryz.prog.keyType 224=true:=by kernel_rfl
theorem slot_cells:Tryz.prog.cellsOf 224=2:=by kernel_rfl
theorem int_cells:Tryz.prog.cellsOf 3=1:=by kernel_rfl
theorem wf_nat (n:Nat) (h:n<1000000):(Lit.int .i64 (n:Int)).wf=true:=WalkArith.wf_i64 (by omega)
theorem key_slot (d k:Nat) (hd:d<1000000) (hk:k<1000000):keyOf Tryz.prog 224 (.agg #[.int .i64 d,.int .i64 k])=some (slotKey d k):=by
 have h1:=wf_nat d hd
 have h2:=wf_nat k hk
 have hf:(Value.agg #[.int .i64 (d:Int),.int .i64 (k:Int)]).formed Tryz.prog 224=true:=by
  simp [Value.formed,Tryz.underlying224,slot_cells]
 unfold keyOf
 rw [Tryz.underlying224]
 simp only [slot_keyType,hf,Bool.and_self,if_true]
 have e:Tryz.prog.keyLits (Tryz.prog.types.size+1) 224 [.int .i64 (d:Int),.int .i64 (k:Int)]=some [.int .i64 d,.int .i64 k]:=by
  obtain ⟨z,hz⟩:∃z,Tryz.prog.types.size=z+1:=⟨Tryz.prog.types.size-1,by kernel_rfl⟩
  rw [hz]
  simp [Program.keyLits,Tryz.underlying224,Tryz.underlying3,slot_cells,int_cells,h1,h2]
 show (Tryz.prog.keyLits _ _ [.int .i64 (d:Int),.int .i64 (k:Int)]).map _=_
 rw [e]
 rfl
theorem key_int (n:Nat) (h:n<1000000):keyOf Tryz.prog 3 (.int .i64 n)=some (.int .i64 n):=keyOf_int_mk Tryz.underlying3 (wf_nat n h)
theorem clear_set {k t e:TypeId} {w:World} {b:Nat} {D:Set0} (h:SetIs w k b D) (ht:Tryz.prog.underlying t=some (.map k e)) (ty:TypeId):∃w',(Builtin.clear_ #[t] ty #[.map (some b)]).run Tryz.prog w=.ok (.tuple #[]) w'/\SetIs w' k b noSet/\w.mapTurned w' b:=by
 obtain ⟨es,clock,hb,F,hs,rfl⟩:=h
 refine ⟨ChangeMaps.setBlock w b (.map #[] clock),?_,⟨#[],clock,ChangeMaps.heap_setBlock_same hb _,⟨by simp,MapKept.stamped_empty clock,by simp⟩,Nat.zero_le _,rfl⟩,⟨es,clock,#[],clock,hb,rfl⟩⟩
 simp [Builtin.clear_,run_underlying ht,MapKept.run_getObj_map hb,MapKept.run_setObj_map _ hb,Result.andThen,ChangeMaps.setBlock]
theorem unit_zero (w:World):(zeroValue 196).run Tryz.prog w=.ok (.agg #[]) w:=by kernel_rfl
section
variable {J:Vk} {w w':World} {s:SuP} {o:Nat->Int} {S:Sh.Sf} {F:Nat->Prop} {D U:Set0} {M St:Nat}
theorem SetR.trans {w1 w2:World} {F1:Nat->Prop} {d k:Nat} {b:Sh.Bs} {y:Int} (h:SetR J w1 s o S F1 D U d k b y w2) (m:Sh.Moves (AllV J F) w (AllV J F1) w1):SetR J w s o S F D U d k b y w2:=by
 obtain ⟨x,S',h1,h2⟩:=h
 exact ⟨x,S',h1,RGoes.trans m h2⟩
abbrev one0:Set0:=.agg []
set_option maxRecDepth 20000 in
theorem change_any (h:Vr J w s o S F D U) (hf:Fits J.n J.L s M St S) (hT:Tabs J.W) (hTB:max 0 1+1<=J.B) (st m:Nat) (hst:st<St) (hm:m<M) {A:Option Addr} {c mm:Nat} {b:Sh.Bs} (hb:Sh.Sec b) (hA:Sh.Beside w (AllV J F) A b) (hL:∀x∈S.disks,x.waits.length<=mm) (hD:Maps.size D<=mm) (hmm:mm<=900000000) :
  Calls Tryz.prog 146 #[.pointer (some ⟨J.v,0,none⟩),.int .i64 st,.int .i64 m,.slice A 128 c] w fun e w' =>
   ∃y:Int,e=.returned (.int .i64 y)/\SetR J w s o S F (D.put (.int .i64 st) one0) U (numOf s M st m) (2+2*J.L+st) b y w':=by
 have c11:=cell_of_row _ _ 11 _ _ _ h.vo.vol.root
 simp only [List.getElem?_toArray,List.getElem?_cons_zero,List.getElem?_cons_succ] at c11
 have hown:=h.opens
 have HH:=hid (And.intro h (And.intro hf (And.intro hA hL)))
 have hst2:st<1000000:=by have:=hf.s2;omega
 have HD:=hid hD
 clear h hf hA hL hD
 go_enter Tryz.func146,Tryz.ntmps146
 go_wp2_with (first
  | (at_mapUpdate;refine wpList_mapUpdate_in _ rfl _ _ _ 131 rfl 3 196 lawInt2 Tryz.underlying131 (unitElem (H:=Unit)) J.mo (Maps.size D) D rfl hown (by have:=HD.out;unfold maxLen;omega) _ _ _ rfl rfl (key_int st hst2) one0 [] unitElem_mk ?_;intro w1 hown1 hturn1))
 obtain ⟨h,hf,hA,hL⟩:=HH.out
 obtain ⟨F1,V1,m1⟩:=h.turnOpen hturn1 hown1
 have H1:=hid (set_any V1 hf hT hTB st m hst hm (c:=c) hb (hA.moves m1) hL hmm)
 have M1:=hid m1
 clear h hf hA hL V1 m1
 clear hown1 hturn1 hown c11
 go_wp2_with fail
 refine H1.out.mono ?_
 rintro e w2 ⟨y,rfl,hS⟩
 have HS:=hid hS
 clear hS H1
 go_wp2
 go_ret
 exact ⟨y,rfl,HS.out.trans M1.out⟩
end
def freeK (U:Set0) (d L:Nat):Option Nat:=(List.range L).find? fun k=>!Maps.has U (slotKey d k)
theorem freeK_none {U:Set0} {d L:Nat} (h:∀i,i<L->Maps.has U (slotKey d i)=true):freeK U d L=none:=by
 unfold freeK
 rw [List.find?_eq_none]
 intro x hx
 rw [h x (List.mem_range.1 hx)]
 decide
theorem freeK_some {U:Set0} {d L k:Nat} (hk:k<L) (h:∀i,i<k->Maps.has U (slotKey d i)=true) (hn:Maps.has U (slotKey d k)=false):freeK U d L=some k:=by
 unfold freeK
 rw [List.find?_range_eq_some]
 refine ⟨by rw [hn];rfl,List.mem_range.2 hk,fun j hj=>by rw [h j hj];rfl⟩
theorem freeK_is {U:Set0} {d L k:Nat} (h:freeK U d L=some k):k<L/\Maps.has U (slotKey d k)=false:=by
 unfold freeK at h
 have h1:=List.find?_some h
 have h2:=List.mem_of_find?_eq_some h
 exact ⟨List.mem_range.1 h2,by simpa using h1⟩
def freeV (U:Set0) (d L:Nat):Value:=.tuple #[.agg #[.int .i64 d,.int .i64 (((freeK U d L).getD 0:Nat):Int)],.bool (freeK U d L).isSome]
theorem info_slotsz:(Tryz.prog.info? 224).map (·.size)=some 2:=by kernel_rfl
set_option maxRecDepth 20000 in
theorem load_slot {w:World} {g:Nat} {v0 v1:Value} (h:w.heap[g]?=some (.cells #[v0,v1] 224 (0,0))):(loadVar 224 ⟨g,0,none⟩).run Tryz.prog w=.ok (.agg #[v0,v1]) w :=
 run_loadVar_row (P:=Tryz.prog) _ g 224 224 _ (0,0) _ h Tryz.underlying224 rfl info_slotsz
theorem two_cells {w:World} {g:Nat} {t:TypeId} {v0 v1:Value} (h:w.heap[g]?=some (.cells #[v0,v1] t (0,0))):w.cell? ⟨g,0,none⟩=some v0/\w.cell? ⟨g,1,none⟩=some v1/\w.frozen? ⟨g,0,none⟩=false/\w.frozen? ⟨g,1,none⟩=false :=
 ⟨cell_of_row _ _ 0 _ _ _ h,cell_of_row _ _ 1 _ _ _ h,frozen_of_row _ _ 0 _ _ h,frozen_of_row _ _ 1 _ _ h⟩
def put2 (w:World) (g:Nat) (a b:Value):World:=(w.setCell ⟨g,0,none⟩ a).setCell ⟨g,1,none⟩ b
theorem put2_row {w:World} {g:Nat} {t:TypeId} {v0 v1:Value} (h:w.heap[g]?=some (.cells #[v0,v1] t (0,0))) (a b:Value):(put2 w g a b).heap[g]?=some (.cells #[a,b] t (0,0)):=by
 have h0:(w.setCell ⟨g,0,none⟩ a).heap[g]?=some (.cells #[a,v1] t (0,0)):=cells_set (i:=0) a h
 exact cells_set (i:=1) b h0
theorem put2_below {B:Nat} {w0 w:World} {g:Nat} (h:Below B w0 w) (hg:B<=g) (a b:Value):Below B w0 (put2 w g a b) :=
 (h.setCell (p:=⟨g,0,none⟩) hg a).setCell (p:=⟨g,1,none⟩) hg b
section
variable {J:Vk} {w w':World} {s:SuP} {o:Nat->Int} {S:Sh.Sf} {F:Nat->Prop} {D U:Set0} {M St:Nat}
def FreeRel (w:World) (U:Set0) (d k:Nat) (wr:World):Prop:=(∀i,i<k->Maps.has U (slotKey d i)=true)/\wr.heap[w.heap.size]?=some (.cells #[.int .i64 0,.int .i64 0] 224 (0,0))/\Below w.heap.size w wr
set_option maxRecDepth 20000 in
set_option maxHeartbeats 800000 in
theorem freeSlot_any (h:Vr J w s o S F D U) (hf:Fits J.n J.L s M St S) (d:Nat) (hd:d<J.n) :
  Calls Tryz.prog 229 #[.pointer (some ⟨J.v,0,none⟩),.int .i64 d] w fun e w'=>e=.returned (freeV U d J.L)/\Below w.heap.size w w':=by
 have c5:=cell_of_row _ _ 5 _ _ _ h.vo.vol.root
 have c12:=cell_of_row _ _ 12 _ _ _ h.vo.vol.root
 simp only [List.getElem?_toArray,List.getElem?_cons_zero,List.getElem?_cons_succ,hf.logs] at c5 c12
 have hb0:Below w.heap.size w (w.alloc (.cells #[.int .i64 0,.int .i64 0] 224)):=(Below.refl _ _).alloc (Nat.le_refl _) _
 have q0:=heap_alloc_new w (.cells #[.int .i64 0,.int .i64 0] 224)
 have HC:=hid (And.intro c5 c12)
 have HV:=hid h.vo.vol.vlt
 have HU:=hid h.used
 have HM:=hid h.vo.lt.2
 have hd2:d<1000000:=by
  obtain ⟨D0,gs,q⟩:=h.vo.ds.on.shelf
  have:=q.most
  have:=hf.len
  omega
 have hL8:=hf.l2
 have c5':=(hb0.cell (p:=⟨J.v,5,none⟩) HV.out).trans c5
 have hrel0:Hid (FreeRel w U d 0 (w.alloc (.cells #[.int .i64 0,.int .i64 0] 224))):=hid ⟨fun i hi=>absurd hi (by omega),q0,hb0⟩
 generalize hL:J.L=L at *
 clear h hf hb0 q0 c5 c12 hL
 go_enter Tryz.func229,Tryz.ntmps229
 go_wp2
 clear c5'
 go_loopw [14] (fun i wr=>∃k:Nat,k<=L/\i=.int .i64 k/\Hid (FreeRel w U d k wr)) (fun i _=>L-(intOf i).toNat)
 case atStart=>exact ⟨0,Nat.zero_le _,rfl,hrel0⟩
 case round =>
  obtain ⟨k,hk,rfl,hrel⟩:=hrel
  by_cases hlt:k<L
  ·obtain ⟨ha,hq,hb⟩:=hrel.out
   have c12:=(hb.cell (p:=⟨J.v,12,none⟩) HV.out).trans HC.out.2
   have hown:=set_same HU.out (hb.block _ HM.out)
   have hkey:=key_slot d k hd2 (by omega)
   have HQ:=hid hq
   have HB:=hid hb
   have HA:=hid ha
   clear ha hq hb hrel hrel0
   cases hh:Maps.has U (slotKey d k)
   ·have hfr:=freeK_some hlt HA.out hh
    have HFR:=hid hfr
    have hq1:(wr.alloc (.cells #[] 196)).heap[w.heap.size]?=some (.cells #[.int .i64 0,.int .i64 0] 224 (0,0)):=(Below.heap_alloc _ _ _ (lt_of_block HQ.out)).trans HQ.out
    obtain ⟨k0,_,f0,_⟩:=two_cells hq1
    have hq2:((wr.alloc (.cells #[] 196)).setCell ⟨w.heap.size,0,none⟩ (.int .i64 d)).heap[w.heap.size]?=some (.cells #[.int .i64 d,.int .i64 0] 224 (0,0)):=cells_set (i:=0) _ hq1
    obtain ⟨_,k1,_,f1⟩:=two_cells hq2
    have HLD:=hid (load_slot (put2_row hq1 (.int .i64 d) (.int .i64 k)))
    have HBE:=hid (put2_below ((HB.out.alloc HB.out.size (.cells #[] 196))) (Nat.le_refl _) (.int .i64 d) (.int .i64 k))
    clear hq1 hq2 hfr
    go_wp2_with (first
     | (at_lookup;refine wpList_lookup_own_unit _ rfl _ _ 132 rfl 224 196 lawSlot Tryz.underlying132 (unit_zero _) J.mu (Maps.size U) U rfl hown _ _ rfl hkey ?_;rw [hh]))
    refine bodyPost_ret (results_cell2 (g:=w.heap.size) Tryz.results229 rfl HLD.out rfl) rfl ?_
    unfold freeV
    rw [HFR.out]
    exact ⟨rfl,HBE.out⟩
   ·have HR:Hid (FreeRel w U d (k+1) (wr.alloc (.cells #[] 196))):=hid ⟨fun i hi=>by
      by_cases e:i=k
      ·rw [e];exact hh
      ·exact HA.out i (by omega),(Below.heap_alloc _ _ _ (lt_of_block HQ.out)).trans HQ.out,HB.out.alloc HB.out.size _⟩
    go_wp2_with (first
     | (at_lookup;refine wpList_lookup_own_unit _ rfl _ _ 132 rfl 224 196 lawSlot Tryz.underlying132 (unit_zero _) J.mu (Maps.size U) U rfl hown _ _ rfl hkey ?_;rw [hh]))
    go_roundw
    case rel=>exact ⟨k+1,by omega,by go_num,HR⟩
    case measure=>simp [intOf];omega
  ·obtain rfl:k=L:=by omega
   obtain ⟨ha,hq,hb⟩:=hrel.out
   have HFR:=hid (freeK_none ha)
   obtain ⟨k0,_,f0,_⟩:=two_cells hq
   have hq2:(wr.setCell ⟨w.heap.size,0,none⟩ (.int .i64 d)).heap[w.heap.size]?=some (.cells #[.int .i64 d,.int .i64 0] 224 (0,0)):=cells_set (i:=0) _ hq
   obtain ⟨_,k1,_,f1⟩:=two_cells hq2
   have HLD:=hid (load_slot (put2_row hq (.int .i64 d) (.int .i64 0)))
   have HBE:=hid (put2_below hb (Nat.le_refl _) (.int .i64 d) (.int .i64 0))
   clear ha hq hb hrel hrel0 hq2
   go_wp2
   refine bodyPost_ret (results_cell2 (g:=w.heap.size) Tryz.results229 rfl HLD.out rfl) rfl ?_
   unfold freeV
   rw [HFR.out]
   exact ⟨rfl,HBE.out⟩
end
section
variable {J:Vk} {w w':World} {s:SuP} {o:Nat->Int} {S:Sh.Sf} {F:Nat->Prop} {D U:Set0} {M St:Nat}
theorem vclear (h:Vr J w s o S F D U) (hf:Fits J.n J.L s M St S) (hT:Tabs J.W) (hTB:max 0 1+1<=J.B) (d k:Nat) (hd:d<J.n) (hk:k<J.L) {mm:Nat} (hL:∀x∈S.disks,x.waits.length<=mm) (hmm:mm<=900000000) :
  Calls Tryz.prog 201 #[.pointer (some ⟨J.gn d,0,none⟩),.int .i64 k] w fun e w'=>∃z:Int,e=.returned (.int .i64 z)/\∃x S',DW S d (o d) (2+2*k) Sh.noughts z x S'/\RGoes J w w' s (put1 o d x) S' F D U:=by
 refine (clear_any2 (h.lg hd) hT hTB (by rw [hf.len];exact hd) k hk hf.l2 (by have:=hf.need;omega) hL hmm).mono ?_
 rintro e w2 ⟨z,rfl,x,S',hD,F2,hl,hm⟩
 exact ⟨z,rfl,x,S',hD,h.goes hd ⟨F2,hl.dv,hm⟩⟩
def ClrRel (J:Vk) (w:World) (s:SuP) (o:Nat->Int) (S:Sh.Sf) (F:Nat->Prop) (D U:Set0) (j k:Nat) (wr:World):Prop :=
 ∃b:Stt,ClrSteps U (slotsTo J.L j k) ⟨S,o⟩ b/\RGoes J w wr s b.o b.S F D U
def ClrIn (J:Vk) (w:World) (s:SuP) (o:Nat->Int) (S:Sh.Sf) (F:Nat->Prop) (D U:Set0) (j k q:Nat) (wr:World):Prop :=
 ∃(b:Stt) (F1:Nat->Prop),ClrSteps U (slotsTo J.L j k) ⟨S,o⟩ b/\Vr J wr s b.o b.S F1 D U/\Sh.Moves (AllV J F) w (AllV J F1) wr/\wr.heap[q]?=some (.cells #[.pointer (some ⟨J.a j,0,none⟩),.pointer (some ⟨J.gn j,0,none⟩)] 130 (0,0))/\¬AllV J F1 q
set_option maxRecDepth 20000 in
set_option maxHeartbeats 1600000 in
theorem clearSlots_any (h:Vr J w s o S F D U) (hf:Fits J.n J.L s M St S) (hT:Tabs J.W) (hTB:max 0 1+1<=J.B) {mm:Nat} (hL:∀x∈S.disks,x.waits.length<=mm) (hmm:mm<=800000000) :
  Calls Tryz.prog 149 #[.pointer (some ⟨J.v,0,none⟩)] w fun e w'=>∃y b,e=.returned (.int .i64 y)/\ClrR J.n J.L U ⟨S,o⟩ y b/\RGoes J w w' s b.o b.S F D U:=by
 have h17:J.n<=17:=by
  obtain ⟨D0,gs,q⟩:=h.vo.ds.on.shelf
  have:=q.most
  have:=hf.len
  omega
 have c10:=h.vo.vol.c10
 have hL8:=hf.l2
 have HF:=hid hf
 have HL:=hid hL
 have hbd:=hid butDead_any
 have hrel0:Hid (ClrRel J w s o S F D U 0 0 w):=hid ⟨⟨S,o⟩,.nil _,RGoes.here h (Below.refl _ w)⟩
 have hlog:=hf.logs
 have HLG:=hid hlog
 clear h hf hL hlog
 go_enter Tryz.func149,Tryz.ntmps149
 go_wp2
 clear c10
 go_loopw [14] (fun i wr=>∃j:Nat,j<=J.n/\i=.int .i64 j/\Hid (ClrRel J w s o S F D U j 0 wr)) (fun i _=>J.n-(intOf i).toNat)
 case atStart=>exact ⟨0,Nat.zero_le _,rfl,hrel0⟩
 case round =>
  obtain ⟨j,hj,rfl,hrel⟩:=hrel
  by_cases hlt:j<J.n
  ·obtain ⟨b0,hst0,F1,V1,M1⟩:=hrel.out
   have d0:=V1.vo.vol.dev hlt
   have d1:=V1.vo.vol.log hlt
   have hbw:Below wr.heap.size wr (wr.alloc (.cells #[.pointer (some ⟨J.a j,0,none⟩),.pointer (some ⟨J.gn j,0,none⟩)] 130)):=(Below.refl _ _).alloc (Nat.le_refl _) _
   have V2:=V1.grown hbw
   have c5:=cell_of_row _ _ 5 _ _ _ V2.vo.vol.root
   simp only [List.getElem?_toArray,List.getElem?_cons_zero,List.getElem?_cons_succ,HLG.out] at c5
   have hin0:Hid (ClrIn J w s o S F D U j 0 wr.heap.size (wr.alloc (.cells #[.pointer (some ⟨J.a j,0,none⟩),.pointer (some ⟨J.gn j,0,none⟩)] 130))):=hid ⟨b0,F1,hst0,V2,M1.trans (moves_grown hbw),heap_alloc_new wr _,fun e=>Nat.lt_irrefl _ (V1.lt _ e)⟩
   unfold Vk.gs at d1
   clear V1 M1 V2 hbw hst0 hrel hrel0
   go_wp2
   clear d0 d1 c5
   generalize hq:wr.heap.size=q at *
   clear hq
   go_loopw [24] (fun i wr=>∃k:Nat,k<=J.L/\i=.int .i64 k/\Hid (ClrIn J w s o S F D U j k q wr)) (fun i _=>J.L-(intOf i).toNat)
   case atStart=>exact ⟨0,Nat.zero_le _,rfl,hin0⟩
   case round =>
    obtain ⟨k,hk,rfl,hrel⟩:=hrel
    by_cases hkt:k<J.L
    ·obtain ⟨b,F1,hst,V1,M1,hq,hnq⟩:=hrel.out
     have c12:=cell_of_row _ _ 12 _ _ _ V1.vo.vol.root
     simp only [List.getElem?_toArray,List.getElem?_cons_zero,List.getElem?_cons_succ] at c12
     have hown:=V1.used
     have hkey:=key_slot j k (by omega) (by omega)
     have hbw:Below wr.heap.size wr (wr.alloc (.cells #[] 196)):=(Below.refl _ _).alloc (Nat.le_refl _) _
     have V2:=V1.grown hbw
     have hq2:=(hbw.block q (lt_of_block hq)).trans hq
     have hsl:slotsTo J.L j (k+1)=slotsTo J.L j k++[(j,k)]:=slotsTo_succ _ _ _
     clear hrel
     cases hh:Maps.has U (slotKey j k)
     ·have HR:Hid (ClrIn J w s o S F D U j (k+1) q (wr.alloc (.cells #[] 196))):=hid ⟨b,F1,by rw [hsl];exact hst.snoc (.inl ⟨hh,rfl,rfl⟩),V2,M1.trans (moves_grown hbw),hq2,hnq⟩
      clear hst V1 M1 hq hnq hbw V2 hq2 hsl
      go_wp2_with (first
       | (at_lookup;refine wpList_lookup_own_unit _ rfl _ _ 132 rfl 224 196 lawSlot Tryz.underlying132 (unit_zero _) J.mu (Maps.size U) U rfl hown _ _ rfl hkey ?_;rw [hh]))
      go_roundw
      case rel=>exact ⟨k+1,by omega,by go_num,HR⟩
      case measure=>simp [intOf];omega
     ·have hwt:∀x∈b.S.disks,x.waits.length<=mm+408:=by
       intro x hx
       have:=hst.waits HL.out x hx
       rw [slotsTo_length] at this
       have:(j+1)*J.L<=17*8:=Nat.mul_le_mul (by omega) hL8
       rw [Nat.succ_mul] at this
       omega
      have hf2:=HF.out.same hst.len.1 hst.len.2
      have HCL:=hid (vclear V2 hf2 hT hTB j k hlt hkt hwt (by omega))
      obtain ⟨_,l1,_,_⟩:=two_cells hq2
      have KEEP:=hid (And.intro hst (And.intro hsl (And.intro (M1.trans (moves_grown hbw)) (And.intro V2 (And.intro hq2 hnq)))))
      have HH:=hid hh
      clear hst V1 M1 hq hnq hbw V2 hq2 hsl hwt hf2
      go_wp2_with (first
       | (at_lookup;refine wpList_lookup_own_unit _ rfl _ _ 132 rfl 224 196 lawSlot Tryz.underlying132 (unit_zero _) J.mu (Maps.size U) U rfl hown _ _ rfl hkey ?_;rw [hh]))
      refine HCL.out.mono ?_
      rintro e w2 ⟨z,rfl,x,S',hD,hG⟩
      obtain ⟨hst,hsl,hm,V2,hq2,hnq⟩:=KEEP.out
      have hbe:=hid (hbd.out z)
      generalize hzz:bd z=y at *
      have HST:Hid (ClrStep U (j,k) b y ⟨S',put1 b.o j x⟩):=hid (.inr ⟨HH.out,z,x,hD,hzz.symm,rfl⟩)
      obtain ⟨F2,V3,m3⟩:=hG
      have hlq:=lt_of_block hq2
      have hq3:=(m3.1.block q hlq hnq).trans hq2
      have hnq3:¬AllV J F2 q:=fun e=>(m3.2 q e).elim hnq (fun e=>by omega)
      have HV:=hid (And.intro V3 (And.intro (hm.trans m3) (And.intro hq3 hnq3)))
      have HSL:=hid (And.intro hst hsl)
      clear hst hsl hm V2 hq2 hnq V3 m3 hq3 hnq3 hlq hD hzz KEEP HCL l1 c12 hown hkey
      by_cases h0:y=0
      ·subst h0
       have HR:Hid (ClrIn J w s o S F D U j (k+1) q w2):=hid ⟨⟨S',put1 b.o j x⟩,F2,by rw [HSL.out.2];exact HSL.out.1.snoc HST.out,HV.out.1,HV.out.2.1,HV.out.2.2.1,HV.out.2.2.2⟩
       go_wp2_with (go_at_call 136;refine (hbe.out _).mono ?_;rintro e w' ⟨rfl,rfl⟩)
       go_roundw
       case rel=>exact ⟨k+1,by omega,by go_num,HR⟩
       case measure=>simp [intOf];omega
      ·have hqq:(y == 0)=false:=by rw [beq_eq_false_iff_ne];exact h0
       have hqn:(y != 0)=true:=by simpa using h0
       have H0:=hid h0
       clear h0
       go_wp2_with (go_at_call 136;refine (hbe.out _).mono ?_;rintro e w' ⟨rfl,rfl⟩)
       go_ret
       exact ⟨y,⟨S',put1 b.o j x⟩,rfl,.inr ⟨H0.out,j,k,b,hlt,hkt,HSL.out.1,HST.out⟩,F2,HV.out.1,HV.out.2.1⟩
    ·have hkL:k=J.L:=by omega
     rw [hkL] at hrel
     clear hkL
     obtain ⟨b,F1,hst,V1,M1,hq,hnq⟩:=hrel.out
     have HR:Hid (ClrRel J w s o S F D U (j+1) 0 wr):=hid ⟨b,by rw [slotsTo_next];exact hst,F1,V1,M1⟩
     clear hst V1 M1 hq hnq hrel hin0
     go_wp2
     go_roundw
     case rel=>exact ⟨j+1,by omega,by go_num,HR⟩
     case measure=>simp [intOf];omega
  ·obtain rfl:j=J.n:=by omega
   obtain ⟨b0,hst0,hG⟩:=hrel.out
   have HST:=hid hst0
   have HG:=hid hG
   clear hst0 hG hrel hrel0
   go_wp2
   go_ret
   exact ⟨0,b0,rfl,.inl ⟨rfl,HST.out⟩,HG.out⟩
end
theorem wpList_clear_set (w:World) {ops:Array Oper} {rest:List Oper} {o:Oper} {a:Act} {Q:Exit->Act->World->Prop} (hg:o.guard=none) (m:Operand) (t:TypeId) (hop:o.op=Op.call { callee:=Callee.builtin Builtin.clear,args:=#[m],argTypes:=#[t] })
  (k e:TypeId) (ht:Tryz.prog.underlying t=some (.map k e)) (b:Nat) (D:Set0) (hm:a.eval m=.map (some b)) (hown:SetIs w k b D)
  (hK:∀w',SetIs w' k b noSet->w.mapTurned w' b->wpList Tryz.prog ops Q rest (a.put o.dst (.tuple #[])) w') :
  wpList Tryz.prog ops Q (o :: rest) a w:=by
 refine wpList_plain hg fun K' hK'=>?_
 obtain ⟨w',hrun,r1,r2⟩:=clear_set hown ht o.type
 unfold Oper.wp
 simp [execOp,hop,resolve,invoke,builtin,hm,hrun,Result.andThen]
 exact hK' _ _ (hK w' r1 r2)
section
variable {J:Vk} {w w':World} {s:SuP} {o:Nat->Int} {S:Sh.Sf} {F:Nat->Prop} {D U:Set0} {M St:Nat}
theorem vflushDisks (h:Vr J w s o S F D U) (hn:S.disks.length=J.n) {mm:Nat} (hL:∀x∈S.disks,x.waits.length<=mm) (hmm:mm<=900000000) :
  Calls Tryz.prog 135 #[.pointer (some ⟨J.v,0,none⟩)] w fun e w'=>e=.returned (.int .i64 (fdS S J.n).2)/\∃o',RGoes J w w' s o' (fdS S J.n).1 F D U:=by
 refine (flushDisks_any h.vo hn (fun x hx=>by have:=hL x hx;omega)).mono ?_
 rintro e w2 ⟨rfl,o',hG⟩
 exact ⟨rfl,o',h.goesV hG⟩
theorem cleared1 (h:Vr J w s o S F D U) {D':Set0} (hs:SetIs w' 3 J.mo D') (ht:w.mapTurned w' J.mo):w'.cell? ⟨J.v,12,none⟩=some (.map (some J.mu))/\SetIs w' 224 J.mu U/\Hid (RGoes J w w' s o S F D' U):=by
 obtain ⟨F1,V,m⟩:=h.turnOpen ht hs
 exact ⟨cell_of_row _ _ 12 _ _ _ V.vo.vol.root,V.used,hid ⟨F1,V,m⟩⟩
theorem cleared2 {w0 w1 w2 w3:World} {F0 F1:Nat->Prop} (m:Sh.Moves (AllV J F0) w0 (AllV J F1) w1) (hG:RGoes J w1 w2 s o S F1 D U) {U':Set0} (hs:SetIs w3 224 J.mu U') (ht:w2.mapTurned w3 J.mu):RGoes J w0 w3 s o S F0 D U':=by
 obtain ⟨F2,V,m2⟩:=hG
 exact RGoes.trans (m.trans m2) (V.turnUsed ht hs)
def FlQ (J:Vk) (w:World) (s:SuP) (S:Sh.Sf) (F:Nat->Prop) (D U:Set0) (y:Int) (w':World):Prop :=
 ∃b D' U',FlR J.n J.L D U S y b D' U'/\RGoes J w w' s b.o b.S F D' U'
set_option maxRecDepth 20000 in
set_option maxHeartbeats 1600000 in
theorem vFlush_any (h:Vr J w s o S F D U) (hf:Fits J.n J.L s M St S) (hT:Tabs J.W) (hTB:max 0 1+1<=J.B) {mm:Nat} (hL:∀x∈S.disks,x.waits.length<=mm) (hU:Maps.size U<=mm) (hmm:mm<=800000000) :
  Calls Tryz.prog 82 #[.pointer (some ⟨J.v,0,none⟩)] w fun e w'=>∃y,e=.returned (.int .i64 y)/\FlQ J w s S F D U y w':=by
 have hL8:=hf.l2
 have h17:J.n<=17:=by
  obtain ⟨D0,gs,q⟩:=h.vo.ds.on.shelf
  have:=q.most
  have:=hf.len
  omega
 have HF1:=hid (vflushDisks h hf.len hL (by omega))
 have hfl:=fdS_length S J.n
 have hfs:=fdS_sectors S J.n
 have hfw:=fdS_lens hL J.n
 have HFF:=hid (hf.same hfl hfs)
 generalize hr1:fdS S J.n=r1 at *
 obtain ⟨S1,y1⟩:=r1
 simp only at HF1 hfl hfs hfw HFF
 have HR1:=hid hr1
 have HW:=hid hfw
 have hU2:=hid hU
 clear h hf hfl hfs hfw hr1 hL hU
 go_enter Tryz.func82,Tryz.ntmps82
 go_wp2_with fail
 refine HF1.out.mono ?_
 rintro e w1 ⟨rfl,o1,F1,V1,m1⟩
 clear HF1
 by_cases h1:y1=0
 ·subst h1
  have c12:=cell_of_row _ _ 12 _ _ _ V1.vo.vol.root
  simp only [List.getElem?_toArray,List.getElem?_cons_zero,List.getElem?_cons_succ] at c12
  have hown:=V1.used
  have HV1:=hid (And.intro V1 m1)
  by_cases hz:Maps.size U=0
  ·have c11:=cell_of_row _ _ 11 _ _ _ V1.vo.vol.root
   simp only [List.getElem?_toArray,List.getElem?_cons_zero,List.getElem?_cons_succ] at c11
   have hop:=V1.opens
   have HZ:=hid hz
   clear V1 m1
   go_wp2_with (first
    | (at_len;refine wpList_len_own _ rfl _ 132 rfl 224 196 Tryz.underlying132 _ J.mu (Maps.size U) U rfl hown ?_)
    | (refine wpList_clear_set _ rfl _ _ rfl 3 196 Tryz.underlying131 J.mo D rfl hop ?_;intro w4 hs4 ht4;obtain ⟨c12b,hown2,hG4⟩:=cleared1 HV1.out.1 hs4 ht4;clear hs4 ht4)
    | (refine wpList_clear_set _ rfl _ _ rfl 224 196 Tryz.underlying132 J.mu U rfl hown2 ?_;intro w5 hs5 ht5))
   have HG5:=hid (cleared2 HV1.out.2 hG4.out hs5 ht5)
   clear hs5 ht5 hG4 hown2 c12b
   go_wp2
   go_ret
   exact ⟨0,rfl,⟨S1,o1⟩,noSet,noSet,by have:=FlR.none (n:=J.n) (L:=J.L) (D:=D) (U:=U) (S:=S) o1 (by rw [HR1.out]) HZ.out;rw [HR1.out] at this;exact this,HG5.out⟩
  ·have hgt:decide ((0:Int)<((Maps.size U:Nat):Int))=true:=by simp;omega
   have hpos:0<Maps.size U:=by omega
   have HZ:=hid hz
   have HCL:=hid (clearSlots_any V1 HFF.out hT hTB HW.out hmm)
   clear V1 m1 hz
   go_wp2_with (first
    | (at_len;refine wpList_len_own _ rfl _ 132 rfl 224 196 Tryz.underlying132 _ J.mu (Maps.size U) U rfl hown ?_))
   refine HCL.out.mono ?_
   rintro e w2 ⟨y2,b,rfl,hcr,F2,V2,m2⟩
   have HCR:=hid hcr
   have HV2:=hid (And.intro V2 (HV1.out.2.trans m2))
   have hlen2:=hcr.len
   have hwt2:=hcr.waits h17 hL8 HW.out
   clear HCL hcr hown c12 hgt hpos
   by_cases h2:y2=0
   ·subst h2
    have HF2:=hid (vflushDisks V2 (hlen2.1.trans HFF.out.len) hwt2 (by omega))
    generalize hr3:fdS b.S J.n=r3 at *
    obtain ⟨S3,y3⟩:=r3
    simp only at HF2
    have HR3:=hid hr3
    clear hr3 V2 m2 hlen2 hwt2
    go_wp2_with fail
    refine HF2.out.mono ?_
    rintro e w3 ⟨rfl,o3,F3,V3,m3⟩
    have HV3:=hid (And.intro V3 (HV2.out.2.trans m3))
    clear HF2
    by_cases h3:y3=0
    ·subst h3
     have c11:=cell_of_row _ _ 11 _ _ _ V3.vo.vol.root
     simp only [List.getElem?_toArray,List.getElem?_cons_zero,List.getElem?_cons_succ] at c11
     have hop:=V3.opens
     clear V3 m3
     go_wp2_with (first
      | (refine wpList_clear_set _ rfl _ _ rfl 3 196 Tryz.underlying131 J.mo D rfl hop ?_;intro w4 hs4 ht4;obtain ⟨c12b,hown2,hG4⟩:=cleared1 HV3.out.1 hs4 ht4;clear hs4 ht4)
      | (refine wpList_clear_set _ rfl _ _ rfl 224 196 Tryz.underlying132 J.mu U rfl hown2 ?_;intro w5 hs5 ht5))
     have HG5:=hid (cleared2 HV3.out.2 hG4.out hs5 ht5)
     clear hs5 ht5 hG4 hown2 c12b
     go_wp2
     go_ret
     exact ⟨0,rfl,⟨S3,o3⟩,noSet,noSet,by have:=FlR.all (n:=J.n) (L:=J.L) (D:=D) (U:=U) (S:=S) o1 o3 b (by rw [HR1.out]) HZ.out (by rw [HR1.out];exact HCR.out) (by rw [HR3.out]);rw [HR3.out] at this;exact this,HG5.out⟩
    ·have hq:(y3 != 0)=true:=by simpa using h3
     have hq2:(y3 == 0)=false:=by simpa using h3
     have H3:=hid h3
     clear V3 m3 h3
     go_wp2
     go_ret
     exact ⟨y3,rfl,⟨S3,o3⟩,D,U,by have:=FlR.again (n:=J.n) (L:=J.L) (D:=D) (U:=U) (S:=S) o1 o3 b (by rw [HR1.out]) HZ.out (by rw [HR1.out];exact HCR.out) (by rw [HR3.out];exact H3.out);rw [HR3.out] at this;exact this,F3,HV3.out.1,HV3.out.2⟩
   ·have hq:(y2 != 0)=true:=by simpa using h2
    have hq2:(y2 == 0)=false:=by simpa using h2
    have H2:=hid h2
    clear V2 m2 h2 hlen2 hwt2
    go_wp2
    go_ret
    exact ⟨y2,rfl,b,D,U,FlR.slots (S:=S) o1 y2 b (by rw [HR1.out]) HZ.out (by rw [HR1.out];exact HCR.out) H2.out,F2,HV2.out.1,HV2.out.2⟩
 ·have hq:(y1 != 0)=true:=by simpa using h1
  have hq2:(y1 == 0)=false:=by simpa using h1
  have HV1:=hid (And.intro V1 m1)
  have H1:=hid h1
  clear V1 m1 h1
  go_wp2
  go_ret
  exact ⟨y1,rfl,⟨S1,o1⟩,D,U,by have:=FlR.first (n:=J.n) (L:=J.L) (D:=D) (U:=U) (S:=S) o1 (by rw [HR1.out];exact H1.out);rw [HR1.out] at this;exact this,F1,HV1.out.1,HV1.out.2⟩
end
def RecTail (d k:Nat) (l hd:Sh.Bs) (a:Stt) (D U:Set0) (y:Int) (b:Stt) (D' U':Set0):Prop :=
 D'=D/\U'=U.put (slotKey d k) one0/\∃z o1 S1,PutR a.S d (a.o d) k l hd z o1 S1/\((z≠0/\y=z/\b=⟨S1,put1 a.o d o1⟩)\/(z=0/\y=Sh.why S1 d/\b=⟨Fl S1 d,put1 (put1 a.o d o1) d (shut (Sh.why S1 d) o1)⟩))
def RecR (n L d:Nat) (l hd:Sh.Bs) (a:Stt) (D U:Set0) (y:Int) (b:Stt) (D' U':Set0):Prop :=
 ((freeK U d L).isSome=true/\RecTail d ((freeK U d L).getD 0) l hd a D U y b D' U') \/
 ((freeK U d L).isSome=false/\∃y1 a1 D1 U1,FlR n L D U a.S y1 a1 D1 U1/\((y1≠0/\y=y1/\b=a1/\D'=D1/\U'=U1)\/(y1=0/\RecTail d ((freeK U d L).getD 0) l hd a1 D1 U1 y b D' U')))
theorem wp_put_slot {o:Oper} {a:Act} {w:World} {K:Act->World->Prop} {Q:Exit->Act->World->Prop} {b:Nat} {U:Set0} {key:Value} {kl:Lit} (m x v:Operand) (hop:o.op=Op.mapUpdate 132 m x v) (hm:a.eval m=.map (some b)) (hx:a.eval x=key) (hv:a.eval v=.agg #[])
  (hown:SetIs w 224 b U) (hn:Maps.size U<maxLen) (hkey:keyOf Tryz.prog 224 key=some kl)
  (hK:∀w',w'.ownsMap Tryz.prog 224 (unitElem (H:=Unit)) b (Maps.size U+1) (U.put kl one0)->w.mapTurned w' b->K (a.put o.dst undef) w'):Oper.wp Tryz.prog o a w K Q:=by
 obtain ⟨w',hrun,r1,r2⟩:=hown.store lawSlot Tryz.underlying132 hn hkey unitElem_mk
 unfold Oper.wp
 simp only [execOp,hop,hm,hx,hv,Sem.run_bind,hrun,Result.andThen_ok]
 exact hK _ r1 r2
def S6 (J:Vk) (q d kk:Nat) (W':World):Prop:=W'.cell? ⟨J.v,12,none⟩=some (.map (some J.mu))/\W'.cell? ⟨q,0,none⟩=some (.int .i64 d)/\W'.cell? ⟨q,1,none⟩=some (.int .i64 kk)
theorem s6_turn {J:Vk} {q d kk:Nat} {w w':World} (h:S6 J q d kk w) (ht:w.mapTurned w' J.mu) (hl:J.v<w.heap.size/\q<w.heap.size) (hne:J.v≠J.mu/\q≠J.mu):S6 J q d kk w':=by
 have ho:=only_turned ht
 exact ⟨(ho.cell (p:=⟨J.v,12,none⟩) hl.1 hne.1).trans h.1,(ho.cell (p:=⟨q,0,none⟩) hl.2 hne.2).trans h.2.1,(ho.cell (p:=⟨q,1,none⟩) hl.2 hne.2).trans h.2.2⟩
section
variable {J:Vk} {w w':World} {s:SuP} {o:Nat->Int} {S:Sh.Sf} {F:Nat->Prop} {D U:Set0} {M St:Nat}
theorem vput (h:Vr J w s o S F D U) (hf:Fits J.n J.L s M St S) (hT:Tabs J.W) (hTB:max 0 1+1<=J.B) (hFl:Flds J.W) (hFB:4+1<=J.B) (d k:Nat) (hd:d<J.n) (hk:k<J.L)
  (x t:Nat) (hx:x<1024) (ht:t<15) {A:Option Addr} {c mm:Nat} {l:Sh.Bs} (hl:Sh.Sec l) (hA:Sh.Beside w (AllV J F) A l) (hL:∀x∈S.disks,x.waits.length<=mm) (hmm:mm<=900000000) :
  Calls Tryz.prog 230 #[.pointer (some ⟨J.gn d,0,none⟩),.int .i64 k,.agg #[.int .i64 x,.int .i64 t,.slice A 128 c]] w fun e w'=>∃z:Int,e=.returned (.int .i64 z)/\∃x1 S',PutR S d (o d) k l (headL (numF x t (Nums.sum 0 l))) z x1 S'/\RGoes J w w' s (put1 o d x1) S' F D U:=by
 refine (put_any2 (h.lg hd) hT hTB hFl hFB (by rw [hf.len];exact hd) k hk hf.l2 (by have:=hf.need;omega) x t hx ht A c l hl (beside_disk hA hd) hL hmm).mono ?_
 rintro e w2 ⟨z,rfl,x1,S',hD,F2,hl2,hm⟩
 exact ⟨z,rfl,x1,S',hD,h.goes hd ⟨F2,hl2.dv,hm⟩⟩
theorem vflush (h:Vr J w s o S F D U) (hn:S.disks.length=J.n) (d:Nat) (hd:d<J.n) {mm:Nat} (hL:∀x∈S.disks,x.waits.length<=mm) (hmm:mm<=900000000) :
  Calls Tryz.prog 189 #[.pointer (some ⟨J.a d,0,none⟩)] w fun e w'=>e=.returned (.int .i64 (Sh.why S d))/\RGoes J w w' s (put1 o d (shut (Sh.why S d) (o d))) (Fl S d) F D U:=by
 refine (flush_dev (h.dv hd) (by rw [hn];exact hd) (fun x hx=>by have:=hL x hx;omega)).mono ?_
 rintro e w2 ⟨rfl,hG⟩
 exact ⟨rfl,h.goes hd hG⟩
def RecQ (J:Vk) (w:World) (s:SuP) (o:Nat->Int) (S:Sh.Sf) (F:Nat->Prop) (D U:Set0) (d:Nat) (l hd:Sh.Bs) (y:Int) (w':World):Prop :=
 ∃b D' U',RecR J.n J.L d l hd ⟨S,o⟩ D U y b D' U'/\RGoes J w w' s b.o b.S F D' U'
theorem beside_goes {w2:World} {F2:Nat->Prop} {q:Nat} {t:TypeId} {cs:Array Value} (hq:w.heap[q]?=some (.cells cs t (0,0))) (hn:¬AllV J F q) (m:Sh.Moves (AllV J F) w (AllV J F2) w2):w2.heap[q]?=some (.cells cs t (0,0))/\¬AllV J F2 q:=by
 have hl:=lt_of_block hq
 exact ⟨(m.1.block q hl hn).trans hq,fun e=>(m.2 q e).elim hn (fun e=>by omega)⟩
set_option maxRecDepth 20000 in
set_option maxHeartbeats 4000000 in
theorem record_any (h:Vr J w s o S F D U) (hf:Fits J.n J.L s M St S) (hT:Tabs J.W) (hTB:max 0 1+1<=J.B) (hFl:Flds J.W) (hFB:4+1<=J.B) (d:Nat) (hd:d<J.n)
  (x t:Nat) (hx:x<1024) (ht:t<15) {A:Option Addr} {c mm:Nat} {l:Sh.Bs} (hl:Sh.Sec l) (hA:Sh.Beside w (AllV J F) A l) (hL:∀x∈S.disks,x.waits.length<=mm) (hU:Maps.size U<=mm) (hDm:Maps.size D<=mm) (hmm:mm<=700000000) :
  Calls Tryz.prog 200 #[.pointer (some ⟨J.v,0,none⟩),.int .i64 d,.agg #[.int .i64 x,.int .i64 t,.slice A 128 c]] w fun e w'=>∃y:Int,e=.returned (.int .i64 y)/\RecQ J w s o S F D U d l (headL (numF x t (Nums.sum 0 l))) y w':=by
 have hb0:Below w.heap.size w (w.alloc (.cells #[.int .i64 x,.int .i64 t,.slice A 128 c] 240)):=(Below.refl _ _).alloc (Nat.le_refl _) _
 have q0:=heap_alloc_new w (.cells #[.int .i64 x,.int .i64 t,.slice A 128 c] 240)
 have V0:=h.grown hb0
 have HFS:=hid (freeSlot_any V0 hf d hd)
 have hd2:d<1000000:=by
  obtain ⟨D0,gs,q⟩:=h.vo.ds.on.shelf
  have:=q.most
  have:=hf.len
  omega
 have h17:J.n<=17:=by
  obtain ⟨D0,gs,q⟩:=h.vo.ds.on.shelf
  have:=q.most
  have:=hf.len
  omega
 have hL8:=hf.l2
 have hkL:(freeK U d J.L).getD 0<J.L:=by
  cases hh:freeK U d J.L with
  | none=>exact hf.l1
  | some k=>simpa using (freeK_is hh).1
 have HRR:Hid (∀y b D' U',RecR J.n J.L d l (headL (numF x t (Nums.sum 0 l))) ⟨S,o⟩ D U y b D' U'↔RecR J.n J.L d l (headL (numF x t (Nums.sum 0 l))) ⟨S,o⟩ D U y b D' U'):=hid fun _ _ _ _=>Iff.rfl
 unfold freeV at HFS
 have HKK:Hid (∀y b D' U',(((freeK U d J.L).isSome=true/\RecTail d ((freeK U d J.L).getD 0) l (headL (numF x t (Nums.sum 0 l))) ⟨S,o⟩ D U y b D' U') \/
   ((freeK U d J.L).isSome=false/\∃y1 a1 D1 U1,FlR J.n J.L D U S y1 a1 D1 U1/\((y1≠0/\y=y1/\b=a1/\D'=D1/\U'=U1)\/(y1=0/\RecTail d ((freeK U d J.L).getD 0) l (headL (numF x t (Nums.sum 0 l))) a1 D1 U1 y b D' U'))))->RecR J.n J.L d l (headL (numF x t (Nums.sum 0 l))) ⟨S,o⟩ D U y b D' U'):=hid fun _ _ _ _=>id
 have hkL2:=hkL
 clear hkL2
 generalize hkk:(freeK U d J.L).getD 0=kk at *
 generalize hfd:(freeK U d J.L).isSome=fd at *
 clear hkk hfd HRR
 have hk2:kk<1000000:=by omega
 have HV0:=hid (And.intro V0 (And.intro q0 (And.intro hb0 (fun e=>Nat.lt_irrefl _ (h.lt w.heap.size e)))))
 have HH:=hid (And.intro hf (And.intro hA hL))
 have HSU:=hid hU
 have HDM:=hid hDm
 clear h hf hb0 q0 V0 hA hL hU hDm
 go_enter Tryz.func200,Tryz.ntmps200
 go_wp2_with fail
 refine HFS.out.mono ?_
 rintro e w1 ⟨rfl,hb1⟩
 have HV1:=hid (by
  obtain ⟨V0,q0,hb0,hn0⟩:=HV0.out
  have hb1a:Below w1.heap.size w1 (w1.alloc (.cells #[.int .i64 d,.int .i64 kk] 224)):=(Below.refl _ _).alloc (Nat.le_refl _) _
  have hz:w.heap.size<w1.heap.size:=Nat.lt_of_lt_of_le (lt_of_block q0) hb1.size
  exact (⟨(V0.grown hb1).grown hb1a,(hb1a.block _ hz).trans ((hb1.block _ (lt_of_block q0)).trans q0),heap_alloc_new w1 _,hb0.trans ((hb1.mono hb0.size).trans (hb1a.mono (Nat.le_of_lt hz))),hn0,fun e=>Nat.lt_irrefl _ ((V0.grown hb1).lt _ e),hz⟩ :
   Vr J (w1.alloc (.cells #[.int .i64 d,.int .i64 kk] 224)) s o S F D U/\(w1.alloc (.cells #[.int .i64 d,.int .i64 kk] 224)).heap[w.heap.size]?=some (.cells #[.int .i64 x,.int .i64 t,.slice A 128 c] 240 (0,0))/\(w1.alloc (.cells #[.int .i64 d,.int .i64 kk] 224)).heap[w1.heap.size]?=some (.cells #[.int .i64 d,.int .i64 kk] 224 (0,0))/\Below w.heap.size w (w1.alloc (.cells #[.int .i64 d,.int .i64 kk] 224))/\¬AllV J F w.heap.size/\¬AllV J F w1.heap.size/\w.heap.size<w1.heap.size))
 clear hb1 HV0 HFS
 cases fd
 ·have HFQ:=hid (vFlush_any HV1.out.1 HH.out.1 hT hTB HH.out.2.2 HSU.out (by omega))
  go_wp2_with fail
  generalize w1.alloc (.cells #[.int .i64 d,.int .i64 kk] 224)=w1a at *
  refine HFQ.out.mono ?_
  rintro e w2 ⟨y1,rfl,a1,D1,U1,hFR,F2,V2,m2⟩
  clear HFQ
  by_cases h1:y1=0
  ·subst h1
   have hlen2:=hFR.len
   have HWT2:=hid (hFR.waits h17 hL8 HH.out.2.2)
   have HSU2:=hid (hFR.sets (m:=mm+Maps.size D) (by omega) (Nat.le_trans HSU.out (Nat.le_add_right _ _))).2
   have HF2:=hid (HH.out.1.same hlen2.1 hlen2.2)
   have HV2:=hid (And.intro V2 (And.intro ((moves_grown (w:=w) HV1.out.2.2.2.1).trans m2) (And.intro (beside_goes HV1.out.2.1 HV1.out.2.2.2.2.1 m2) (beside_goes HV1.out.2.2.1 HV1.out.2.2.2.2.2.1 m2))))
   have HFIN:Hid (∀y b D' U',RecTail d kk l (headL (numF x t (Nums.sum 0 l))) a1 D1 U1 y b D' U'->RecR J.n J.L d l (headL (numF x t (Nums.sum 0 l))) ⟨S,o⟩ D U y b D' U'):=hid fun y b D' U' hr=>HKK.out y b D' U' (.inr ⟨by simp,0,a1,D1,U1,hFR,.inr ⟨rfl,hr⟩⟩)
   generalize w1.heap.size=qq at *
   clear hFR V2 m2 hlen2
   have hS6:S6 J qq d kk w2.drew:=by
    obtain ⟨V2,_,_,hq1,_⟩:=HV2.out
    exact ⟨cell_of_row _ _ 12 _ _ _ V2.vo.vol.root,(two_cells hq1).1,(two_cells hq1).2.1⟩
   have HLT:Hid (J.v<w2.drew.heap.size/\qq<w2.drew.heap.size):=hid ⟨HV2.out.1.vo.vol.vlt,lt_of_block HV2.out.2.2.2.1⟩
   have HNE:Hid (J.v≠J.mu/\qq≠J.mu):=hid ⟨fun e=>HV2.out.1.ne.2.2.2.2.1 e.symm,fun e=>HV2.out.2.2.2.2 (.inr (.inr (.inr (.inr e))))⟩
   have j12:=fun (W':World) (h:S6 J qq d kk W')=>h.1
   have jq0:=fun (W':World) (h:S6 J qq d kk W')=>h.2.1
   have jq1:=fun (W':World) (h:S6 J qq d kk W')=>h.2.2
   go_wp2_with fail
   refine wp_region_held_drew (S:=S6 J qq d kk) (by kernel_rfl) hS6 (fun hHeld=>?_)
   refine tk 0 25 ?_
   refine tk 1 26 ?_
   refine tk 2 27 ?_
   refine tk 3 28 ?_
   refine tk 4 29 ?_
   refine tk 5 30 ?_
   refine r1 6 none fun K hK=>?_
   rw [if_pos (by rfl)]
   refine wp_put_slot _ _ _ rfl rfl rfl rfl HV2.out.1.used.drew (by have:=HSU2.out;have:=HDM.out;unfold maxLen;omega) (key_slot d kk hd2 hk2) ?_
   intro w3 hs3 ht3
   refine hK.out _ _ (s6_turn hHeld ht3 HLT.out HNE.out) (fun hHeld=>?_)
   clear hK K
   refine wpAnyH_done (by kernel_rfl) ?_ _
   obtain ⟨V2,m2,⟨hq0,hn0⟩,hq1,hn1⟩:=HV2.out
   have ht3b:w2.drew.mapTurned w3 J.mu:=ht3
   have V2d:=V2.grown (drew_below w2)
   obtain ⟨F3,V3,m3⟩:=V2d.turnUsed ht3b hs3
   have hm3:=m2.trans ((moves_grown (drew_below w2)).trans m3)
   obtain ⟨hq03,hn03⟩:=beside_goes (w:=w2.drew) hq0 hn0 m3
   obtain ⟨hq13,hn13⟩:=beside_goes (w:=w2.drew) hq1 hn1 m3
   have hbd3:Below w3.heap.size w3 (w3.alloc (.cells #[.pointer (some ⟨J.a d,0,none⟩),.pointer (some ⟨J.gn d,0,none⟩)] 130)):=(Below.refl _ _).alloc (Nat.le_refl _) _
   have V3a:=V3.grown hbd3
   have hq23:=heap_alloc_new w3 (.cells #[.pointer (some ⟨J.a d,0,none⟩),.pointer (some ⟨J.gn d,0,none⟩)] 130)
   have hn23:¬AllV J F3 w3.heap.size:=fun e=>Nat.lt_irrefl _ (V3.lt _ e)
   have c10:=V3.vo.vol.c10
   have d0:=V3.vo.vol.dev hd
   have d1:=V3.vo.vol.log hd
   unfold Vk.gs at d1
   obtain ⟨_,k1,_,_⟩:=two_cells ((hbd3.block _ (lt_of_block hq13)).trans hq13)
   obtain ⟨r0,r1,r2,_⟩:=cells3_of ((hbd3.block _ (lt_of_block hq03)).trans hq03)
   have hma:=hm3.trans (moves_grown hbd3)
   have HPUT:=hid (vput V3a HF2.out hT hTB hFl hFB d kk hd hkL x t hx ht (c:=c) hl (HH.out.2.1.moves hma) HWT2.out (by omega))
   have HV4:=hid (And.intro V3a (And.intro hma (And.intro hq23 hn23)))
   have HLN:=hid HF2.out.len
   clear V2 m2 hq0 hn0 hq1 hn1 ht3 ht3b V2d V3 m3 hm3 hq03 hn03 hq13 hn13 hbd3 V3a hq23 hn23 hma hs3 hHeld hS6 j12 jq0 jq1
   go_wp2_with fail
   refine HPUT.out.mono ?_
   rintro e w4 ⟨z,rfl,x1,S4,hPR,F4,V4,m4⟩
   obtain ⟨V3a,hma,hq2,hn2⟩:=HV4.out
   obtain ⟨hq24,hn24⟩:=beside_goes hq2 hn2 m4
   clear HPUT c10 d0 d1 k1 r0 r1 r2
   by_cases hz:z=0
   ·subst hz
    have hw4:=hPR.waits HWT2.out
    have hl4:=hPR.len.trans HLN.out
    have HFD:=hid (vflush V4 hl4 d hd hw4 (by omega))
    obtain ⟨e0,_,_,_⟩:=two_cells hq24
    have HR:=hid hPR
    have HM:=hid (hma.trans m4)
    clear hPR V4 m4 V3a hma hq2 hn2 hq24 hn24 hw4 hl4
    go_wp2_with fail
    refine HFD.out.mono ?_
    rintro e w5 ⟨rfl,hG⟩
    have HG:=hid (RGoes.trans HM.out hG)
    clear hG HFD e0
    go_wp2
    go_ret
    exact ⟨_,rfl,_,_,_,HFIN.out _ _ _ _ ⟨rfl,rfl,0,x1,S4,HR.out,.inr ⟨rfl,rfl,rfl⟩⟩,by
     have:=HG.out
     unfold put1 at this ⊢
     rw [if_pos rfl] at this
     exact this⟩
   ·have hq:(z != 0)=true:=by simpa using hz
    have hq2:(z == 0)=false:=by simpa using hz
    have HG:=hid (RGoes.trans hma ⟨F4,V4,m4⟩)
    have HR:=hid (HFIN.out z ⟨S4,put1 a1.o d x1⟩ D1 (U1.put (slotKey d kk) one0) ⟨rfl,rfl,z,x1,S4,hPR,.inl ⟨hz,rfl,rfl⟩⟩)
    clear hPR V4 m4 V3a hma hq24 hn24 hz hn2
    go_wp2
    go_ret
    exact ⟨z,rfl,_,_,_,HR.out,HG.out⟩
  ·have hq:(y1 != 0)=true:=by simpa using h1
   have hq2:(y1 == 0)=false:=by simpa using h1
   have HG:=hid (RGoes.trans (moves_grown (w:=w) HV1.out.2.2.2.1) ⟨F2,V2,m2⟩)
   have HR:=hid (HKK.out y1 a1 D1 U1 (.inr ⟨by simp,y1,a1,D1,U1,hFR,.inl ⟨h1,rfl,rfl,rfl,rfl⟩⟩))
   clear hFR V2 m2 h1
   go_wp2
   go_ret
   exact ⟨y1,rfl,a1,D1,U1,HR.out,HG.out⟩
 ·have HWT2:Hid (∀x∈(Stt.mk S o).S.disks,x.waits.length<=mm+408):=hid fun x hx=>by have:=HH.out.2.2 x hx;omega
  have HSU2:Hid (Maps.size U<=mm+Maps.size D):=hid (Nat.le_trans HSU.out (Nat.le_add_right _ _))
  have HF2:Hid (Fits J.n J.L s M St (Stt.mk S o).S):=hid HH.out.1
  have HFIN:Hid (∀y b D' U',RecTail d kk l (headL (numF x t (Nums.sum 0 l))) ⟨S,o⟩ D U y b D' U'->RecR J.n J.L d l (headL (numF x t (Nums.sum 0 l))) ⟨S,o⟩ D U y b D' U'):=hid fun y b D' U' hr=>HKK.out y b D' U' (.inl ⟨by simp,hr⟩)
  have HV2:=hid (And.intro HV1.out.1 (And.intro (moves_grown (w:=w) (G:=AllV J F) HV1.out.2.2.2.1) (And.intro (And.intro HV1.out.2.1 HV1.out.2.2.2.2.1) (And.intro HV1.out.2.2.1 HV1.out.2.2.2.2.2.1))))
  go_wp2_with fail
  generalize w1.alloc (.cells #[.int .i64 d,.int .i64 kk] 224)=w2 at *
  generalize w1.heap.size=qq at *
  have hS6:S6 J qq d kk w2.drew:=by
   obtain ⟨V2,_,_,hq1,_⟩:=HV2.out
   exact ⟨cell_of_row _ _ 12 _ _ _ V2.vo.vol.root,(two_cells hq1).1,(two_cells hq1).2.1⟩
  have HLT:Hid (J.v<w2.drew.heap.size/\qq<w2.drew.heap.size):=hid ⟨HV2.out.1.vo.vol.vlt,lt_of_block HV2.out.2.2.2.1⟩
  have HNE:Hid (J.v≠J.mu/\qq≠J.mu):=hid ⟨fun e=>HV2.out.1.ne.2.2.2.2.1 e.symm,fun e=>HV2.out.2.2.2.2 (.inr (.inr (.inr (.inr e))))⟩
  have j12:=fun (W':World) (h:S6 J qq d kk W')=>h.1
  have jq0:=fun (W':World) (h:S6 J qq d kk W')=>h.2.1
  have jq1:=fun (W':World) (h:S6 J qq d kk W')=>h.2.2
  go_wp2_with fail
  refine wp_region_held_drew (S:=S6 J qq d kk) (by kernel_rfl) hS6 (fun hHeld=>?_)
  refine tk 0 25 ?_
  refine tk 1 26 ?_
  refine tk 2 27 ?_
  refine tk 3 28 ?_
  refine tk 4 29 ?_
  refine tk 5 30 ?_
  refine r1 6 none fun K hK=>?_
  rw [if_pos (by rfl)]
  refine wp_put_slot _ _ _ rfl rfl rfl rfl HV2.out.1.used.drew (by have:=HSU2.out;have:=HDM.out;unfold maxLen;omega) (key_slot d kk hd2 hk2) ?_
  intro w3 hs3 ht3
  refine hK.out _ _ (s6_turn hHeld ht3 HLT.out HNE.out) (fun hHeld=>?_)
  clear hK K
  refine wpAnyH_done (by kernel_rfl) ?_ _
  obtain ⟨V2,m2,⟨hq0,hn0⟩,hq1,hn1⟩:=HV2.out
  have ht3b:w2.drew.mapTurned w3 J.mu:=ht3
  have V2d:=V2.grown (drew_below w2)
  obtain ⟨F3,V3,m3⟩:=V2d.turnUsed ht3b hs3
  have hm3:=m2.trans ((moves_grown (drew_below w2)).trans m3)
  obtain ⟨hq03,hn03⟩:=beside_goes (w:=w2.drew) hq0 hn0 m3
  obtain ⟨hq13,hn13⟩:=beside_goes (w:=w2.drew) hq1 hn1 m3
  have hbd3:Below w3.heap.size w3 (w3.alloc (.cells #[.pointer (some ⟨J.a d,0,none⟩),.pointer (some ⟨J.gn d,0,none⟩)] 130)):=(Below.refl _ _).alloc (Nat.le_refl _) _
  have V3a:=V3.grown hbd3
  have hq23:=heap_alloc_new w3 (.cells #[.pointer (some ⟨J.a d,0,none⟩),.pointer (some ⟨J.gn d,0,none⟩)] 130)
  have hn23:¬AllV J F3 w3.heap.size:=fun e=>Nat.lt_irrefl _ (V3.lt _ e)
  have c10:=V3.vo.vol.c10
  have d0:=V3.vo.vol.dev hd
  have d1:=V3.vo.vol.log hd
  unfold Vk.gs at d1
  obtain ⟨_,k1,_,_⟩:=two_cells ((hbd3.block _ (lt_of_block hq13)).trans hq13)
  obtain ⟨r0,r1,r2,_⟩:=cells3_of ((hbd3.block _ (lt_of_block hq03)).trans hq03)
  have hma:=hm3.trans (moves_grown hbd3)
  have HPUT:=hid (vput V3a HF2.out hT hTB hFl hFB d kk hd hkL x t hx ht (c:=c) hl (HH.out.2.1.moves hma) HWT2.out (by omega))
  have HV4:=hid (And.intro V3a (And.intro hma (And.intro hq23 hn23)))
  have HLN:=hid HF2.out.len
  clear V2 m2 hq0 hn0 hq1 hn1 ht3 ht3b V2d V3 m3 hm3 hq03 hn03 hq13 hn13 hbd3 V3a hq23 hn23 hma hs3 hHeld hS6 j12 jq0 jq1
  go_wp2_with fail
  refine HPUT.out.mono ?_
  rintro e w4 ⟨z,rfl,x1,S4,hPR,F4,V4,m4⟩
  obtain ⟨V3a,hma,hq2,hn2⟩:=HV4.out
  obtain ⟨hq24,hn24⟩:=beside_goes hq2 hn2 m4
  clear HPUT c10 d0 d1 k1 r0 r1 r2
  by_cases hz:z=0
  ·subst hz
   have hw4:=hPR.waits HWT2.out
   have hl4:=hPR.len.trans HLN.out
   have HFD:=hid (vflush V4 hl4 d hd hw4 (by omega))
   obtain ⟨e0,_,_,_⟩:=two_cells hq24
   have HR:=hid hPR
   have HM:=hid (hma.trans m4)
   clear hPR V4 m4 V3a hma hq2 hn2 hq24 hn24 hw4 hl4
   go_wp2_with fail
   refine HFD.out.mono ?_
   rintro e w5 ⟨rfl,hG⟩
   have HG:=hid (RGoes.trans HM.out hG)
   clear hG HFD e0
   go_wp2
   go_ret
   exact ⟨_,rfl,_,_,_,HFIN.out _ _ _ _ ⟨rfl,rfl,0,x1,S4,HR.out,.inr ⟨rfl,rfl,rfl⟩⟩,by
    have:=HG.out
    unfold put1 at this ⊢
    rw [if_pos rfl] at this
    exact this⟩
  ·have hq:(z != 0)=true:=by simpa using hz
   have hq2:(z == 0)=false:=by simpa using hz
   have HG:=hid (RGoes.trans hma ⟨F4,V4,m4⟩)
   have HR:=hid (HFIN.out z ⟨S4,put1 (Stt.mk S o).o d x1⟩ D (U.put (slotKey d kk) one0) ⟨rfl,rfl,z,x1,S4,hPR,.inl ⟨hz,rfl,rfl⟩⟩)
   clear hPR V4 m4 V3a hma hq24 hn24 hz hn2
   go_wp2
   go_ret
   exact ⟨z,rfl,_,_,_,HR.out,HG.out⟩
end
theorem drew_n (w:World) (k:Nat):Below w.heap.size w (w.drewN k):=drawn (Below.refl _ w) k
section
variable {J:Vk} {w w':World} {s:SuP} {o:Nat->Int} {S:Sh.Sf} {F:Nat->Prop} {D U:Set0} {M St:Nat}
theorem vsize (h:Vr J w s o S F D U) (hf:Fits J.n J.L s M St S):Calls Tryz.prog 140 #[.pointer (some ⟨J.v,0,none⟩)] w fun e w'=>e=.returned (.int .i64 ((St*(M-1):Nat):Int))/\Below w.heap.size w w':=by
 have c2:=cell_of_row _ _ 2 _ _ _ h.vo.vol.root
 have c4:=cell_of_row _ _ 4 _ _ _ h.vo.vol.root
 simp only [List.getElem?_toArray,List.getElem?_cons_zero,List.getElem?_cons_succ,hf.mem,hf.str] at c2 c4
 have hc:=hid (fun w=>L.cap_ok M St w hf.m3 hf.m16 hf.s1 hf.s2)
 have hz:St*(M-1)<=1024*15:=Nat.mul_le_mul hf.s2 (by have:=hf.m16;omega)
 generalize St*(M-1)=z at *
 clear h hf
 go_enter Tryz.func140,Tryz.ntmps140
 go_wp2
 go_quiet ((go_at_call 194;exact Calls.quiet_of_same ((hc.out _).mono (fun _ _ h=>⟨h.1,h.2.symm⟩))))
 go_wp2
 go_ret
 exact ⟨rfl,drew_n _ _⟩
def hasB (M St:Nat) (n:Int):Bool:=decide (0<=n/\n<((St*(M-1):Nat):Int))
theorem vhas (h:Vr J w s o S F D U) (hf:Fits J.n J.L s M St S) (n:Int):Calls Tryz.prog 142 #[.pointer (some ⟨J.v,0,none⟩),.int .i64 n] w fun e w'=>e=.returned (.bool (hasB M St n))/\Below w.heap.size w w':=by
 have hs:=hid (vsize h hf)
 unfold hasB
 generalize ((St*(M-1):Nat):Int)=z at *
 clear h hf
 by_cases h0:0<=n
 ·have q1:decide (n≥0)=true:=by simpa using h0
  by_cases h1:n<z
  ·have q2:decide (n<z)=true:=by simpa using h1
   rw [decide_eq_true (And.intro h0 h1)]
   clear h0 h1
   go_enter Tryz.func142,Tryz.ntmps142
   go_wp2_with fail
   refine hs.out.mono ?_
   rintro e w' ⟨rfl,hb⟩
   go_wp2
   go_ret
   exact ⟨rfl,hb⟩
  ·have q2:decide (n<z)=false:=by simpa using h1
   rw [decide_eq_false (fun e=>h1 e.2)]
   clear h0 h1
   go_enter Tryz.func142,Tryz.ntmps142
   go_wp2_with fail
   refine hs.out.mono ?_
   rintro e w' ⟨rfl,hb⟩
   go_wp2
   go_ret
   exact ⟨rfl,hb⟩
 ·have q1:decide (n≥0)=false:=by simpa using h0
  rw [decide_eq_false (fun e=>h0 e.1)]
  clear h0
  go_enter Tryz.func142,Tryz.ntmps142
  go_wp2
  go_ret
  exact ⟨rfl,Below.refl _ _⟩
def refY (S:Sh.Sf) (b:Bool):Int:=if b then (if S.off then 3 else 0) else 1
theorem vrefusal (h:Vr J w s o S F D U) (b:Bool):Calls Tryz.prog 141 #[.pointer (some ⟨J.v,0,none⟩),.bool b] w fun e w'=>e=.returned (.int .i64 (refY S b))/\w=w':=by
 have c0:=cell_of_row _ _ 0 _ _ _ h.vo.vol.root
 simp only [List.getElem?_toArray,List.getElem?_cons_zero] at c0
 have ho:Hid (Calls Tryz.prog 119 #[.pointer (some ⟨J.p,0,none⟩)] w fun e w'=>e=.returned (.bool S.off)/\w=w'):=hid (by
  obtain ⟨D0,gs,q⟩:=h.vo.ds.on.shelf
  exact Sh.off_any q)
 unfold refY
 generalize S.off=off at *
 clear h
 cases b
 ·go_enter Tryz.func141,Tryz.ntmps141
  go_wp2
  go_ret
  exact ⟨rfl,rfl⟩
 ·cases off
  all_goals
   go_enter Tryz.func141,Tryz.ntmps141
   go_wp2_with fail
   refine ho.out.mono ?_
   rintro e w' ⟨rfl,rfl⟩
   go_wp2
   go_ret
   exact ⟨rfl,rfl⟩
theorem dead_dev {B:Nat} {W:World} {a p d:Nat} {o:Int} (h:Dv B W w a p d o S F) (hd:d<S.disks.length):Calls Tryz.prog 133 #[.pointer (some ⟨a,0,none⟩)] w fun e w'=>e=.returned (.bool (dk S d).dead)/\Below w.heap.size w w':=by
 have c0:=h.dev.c0
 have c1:=h.dev.c1
 have HD:Hid (∀k,Calls Tryz.prog 185 #[.pointer (some ⟨p,0,none⟩),.int .i64 d] (w.drewN k) fun e w'=>e=.returned (.bool (dk S d).dead)/\w.drewN k=w'):=hid fun k=>by
  obtain ⟨D0,gs,q⟩:=(h.grown (drew_n w k)).on.shelf
  exact Sh.dead_yes q d hd
 generalize (dk S d).dead=b at *
 clear h
 go_enter Tryz.func133,Tryz.ntmps133
 go_wp2
 go_quiet ((go_at_call 185;exact Calls.quiet_of_same ((HD.out _).mono (fun _ _ h=>⟨h.1,h.2.symm⟩))))
 go_wp2
 go_ret
 exact ⟨rfl,drew_n _ _⟩
end
end Go.Proofs.YtcnjpmcelihknaaGreatDoor.U
