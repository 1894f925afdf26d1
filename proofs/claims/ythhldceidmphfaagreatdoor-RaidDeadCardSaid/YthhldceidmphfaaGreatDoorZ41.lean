/-
  What the statement's proof rests on, part 41.
  Conditions: each theorem's own.
-/
import Derived.Test.YthhldceidmphfaaGreatDoorZ40
import Derived.Test.YthhldceidmphfaaGreatDoorZ32
import Derived.Test.YthhldceidmphfaaGreatDoorZtk
namespace Go.Proofs.YthhldceidmphfaaGreatDoor.U
open Go.ChangeShapes Go.WideShapes Go.ChangeAt Go.RowKit Go.Maps
def opV (v:Sh.Op8):Value:=.agg #[.int .i64 v.kind,.int .i64 v.n,.int .i64 v.at_,.int .u8 (v.x:Int),.slice v.A v.m v.c]
section
variable {J:Vk} {w:World} {r m lb:Nat} {A:Ar} {S:Sh.Sf} {o:Nat→Int} {D U:Set0} {F:Nat→Prop} {kd:Bool} {may:Nat→List Sh.Bs} {gh:Gh}
theorem op_cells {w:World} {b:Nat} {x0 x1 x2 x3 x4:Value} {t:TypeId} (h:w.heap[b]?=some (.cells #[x0,x1,x2,x3,x4] t (0,0))) :
  w.cell? ⟨b,0,none⟩=some x0∧w.cell? ⟨b,1,none⟩=some x1∧w.cell? ⟨b,2,none⟩=some x2∧w.cell? ⟨b,3,none⟩=some x3∧w.cell? ⟨b,4,none⟩=some x4 :=
 ⟨cell_of_row _ _ 0 _ _ _ h,cell_of_row _ _ 1 _ _ _ h,cell_of_row _ _ 2 _ _ _ h,cell_of_row _ _ 3 _ _ _ h,cell_of_row _ _ 4 _ _ _ h⟩
theorem Good.more {B:Nat} {W:World} {p:Nat} {A0:Ar} {a b l l':Nat} (hab:a≤b) (hl:l≤l') (h:Good B W p r A0 kd a l w):Good B W p r A0 kd b l' w:=by
 obtain ⟨J,A,S,o,g,D,U,F,may,e1,e2,e3,e4,e5,e6,e7,e8⟩:=h
 exact ⟨J,A,S,o,g,D,U,F,may,e1,e2,e3,e4,⟨e5.vr,e5.few.more hab,e5.n,e5.L,e5.rg⟩,e6,e7,fun j hj=>Nat.le_trans (e8 j hj) hl⟩
theorem rigWrite_any (h:Rig J w r A S o D U F kd may m) (hi:Inv A S o gh D U may kd) (hlast:S.off=false→LastOk A gh may) (hlb:∀j,j<A.St*(A.M-1)→(may j).length≤lb) (hl:lb≤50000) (hT:Tbl J.B J.W) (hm:m≤400000000) (hN:A.St*(A.M-1)≤1000) (n:Int) (hn1:-9223372036854775808≤n) (hn2:n≤9223372036854775807) (x:Nat) (hx:x<256) :
  Calls Tryz.prog 45 #[.pointer (some ⟨r,0,none⟩),.int .i64 n,.int .u8 x] w fun e w'=>e=.returned (.bool true)∧Good J.B J.W J.p r A kd (m+1000) (lb+1) w':=by
 by_cases hr:0≤n∧n<((A.St*(A.M-1):Nat):Int)
 ·cases hon:S.off with
  | true=>exact (rigWrite_no h hi hlast hlb hT hm n hn1 hn2 x hx (.inr hon)).mono fun _ _ e=>⟨e.1,e.2.more (Nat.le_refl _) (by omega)⟩
  | false =>
   obtain ⟨k,rfl⟩:∃k:Nat,n=(k:Int):=⟨n.toNat,by omega⟩
   exact rigWrite_on h hi hlast hlb hl hT hm k (by omega) hN x hx hon
 ·exact (rigWrite_no h hi hlast hlb hT hm n hn1 hn2 x hx (.inl hr)).mono fun _ _ e=>⟨e.1,e.2.more (Nat.le_refl _) (by omega)⟩
set_option maxRecDepth 20000 in
set_option maxHeartbeats 4000000 in
theorem do_write (h:Rig J w r A S o D U F kd may m) (hi:Inv A S o gh D U may kd) (hlast:S.off=false→LastOk A gh may) (hlb:∀j,j<A.St*(A.M-1)→(may j).length≤lb) (hl:lb≤50000) (hT:Tbl J.B J.W) (hm:m≤400000000) (hN:A.St*(A.M-1)≤1000) (v:Sh.Op8) (hk:v.kind=2) (hn:Sh.I64 v.n) (hx:v.x<256) :
  Calls Tryz.prog 16 #[.pointer (some ⟨r,0,none⟩),opV v] w fun e w'=>e=.returned (.bool true)∧Good J.B J.W J.p r A kd (m+1000) (lb+1) w':=by
 have hb0:Below w.heap.size w (w.alloc (.cells #[.int .i64 v.kind,.int .i64 v.n,.int .i64 v.at_,.int .u8 (v.x:Int),.slice v.A v.m v.c] 31)):=(Below.refl _ _).alloc (Nat.le_refl _) _
 obtain ⟨k0,k1,k2,k3,k4⟩:=op_cells (heap_alloc_new w (.cells #[.int .i64 v.kind,.int .i64 v.n,.int .i64 v.at_,.int .u8 (v.x:Int),.slice v.A v.m v.c] 31))
 have HWR:=Lib.hid (rigWrite_any (h.grown hb0) hi hlast hlb hl hT hm hN v.n hn.1 hn.2 v.x hx)
 unfold opV
 obtain ⟨kind,n,at_,x,vA,vm,vc,ks⟩:=v
 simp only at hk hn hx k0 k1 k2 k3 k4 HWR hb0 ⊢
 subst hk
 clear h hi hlast hlb
 go_enter Tryz.func16,Tryz.ntmps16
 go_wp2_with fail
 refine HWR.out.mono ?_
 rintro e w1 ⟨rfl,hg⟩
 have HG:=Lib.hid hg
 clear hg HWR k0 k1 k2 k3 k4
 go_wp2
 go_ret
 exact ⟨rfl,HG.out⟩
end
section
variable {J:Vk} {w:World} {r m lb:Nat} {A:Ar} {S:Sh.Sf} {o:Nat→Int} {D U:Set0} {F:Nat→Prop} {kd:Bool} {may:Nat→List Sh.Bs} {gh:Gh}
set_option maxRecDepth 20000 in
set_option maxHeartbeats 4000000 in
theorem do_crash (h:Rig J w r A S o D U F kd may m) (hi:Inv A S o gh D U may kd) (hlb:∀j,j<A.St*(A.M-1)→(may j).length≤lb) (hl:lb≤50000) (hlb1:1≤lb) (hB:J.B=J.W.heap.size) (hT:Tbl J.B J.W) (hm:m≤400000000) (hN:A.St*(A.M-1)≤1000) (v:Sh.Op8) (hk:v.kind=5) (hkp:Sh.KeepIs J.W (Sh.Old J.W) v.A v.m v.ks) (hm9:v.m≤9223372036854775807) :
  Calls Tryz.prog 16 #[.pointer (some ⟨r,0,none⟩),opV v] w fun e w'=>e=.returned (.bool true)∧Good J.B J.W J.p r A kd 2000000 lb w':=by
 have hb0:Below w.heap.size w (w.alloc (.cells #[.int .i64 v.kind,.int .i64 v.n,.int .i64 v.at_,.int .u8 (v.x:Int),.slice v.A v.m v.c] 31)):=(Below.refl _ _).alloc (Nat.le_refl _) _
 obtain ⟨k0,k1,k2,k3,k4⟩:=op_cells (heap_alloc_new w (.cells #[.int .i64 v.kind,.int .i64 v.n,.int .i64 v.at_,.int .u8 (v.x:Int),.slice v.A v.m v.c] 31))
 have HWR:=Lib.hid (crash_plain (h.grown hb0) hi hB hT hm hlb (by omega) hlb1 hN v.A v.m v.c hkp hm9 (-1) (by decide))
 unfold opV
 obtain ⟨kind,n,at_,x,vA,vm,vc,ks⟩:=v
 simp only at hk hkp hm9 k0 k1 k2 k3 k4 HWR hb0 ⊢
 subst hk
 clear h hi hlb
 go_enter Tryz.func16,Tryz.ntmps16
 go_wp2_with fail
 refine HWR.out.mono ?_
 rintro e w1 ⟨rfl,hg⟩
 have HG:=Lib.hid hg
 clear hg HWR k0 k1 k2 k3 k4
 go_wp2
 go_ret
 exact ⟨rfl,HG.out⟩
set_option maxRecDepth 20000 in
set_option maxHeartbeats 4000000 in
theorem do_stop (h:Rig J w r A S o D U F kd may m) (hi:Inv A S o gh D U may kd) (hlast:S.off=false→LastOk A gh may) (hlb:∀j,j<A.St*(A.M-1)→(may j).length≤lb) (v:Sh.Op8) (hk:v.kind=4) (hn:Sh.I64 v.n) :
  Calls Tryz.prog 16 #[.pointer (some ⟨r,0,none⟩),opV v] w fun e w'=>e=.returned (.bool true)∧Good J.B J.W J.p r A kd m lb w':=by
 have hb0:Below w.heap.size w (w.alloc (.cells #[.int .i64 v.kind,.int .i64 v.n,.int .i64 v.at_,.int .u8 (v.x:Int),.slice v.A v.m v.c] 31)):=(Below.refl _ _).alloc (Nat.le_refl _) _
 obtain ⟨k0,k1,k2,k3,k4⟩:=op_cells (heap_alloc_new w (.cells #[.int .i64 v.kind,.int .i64 v.n,.int .i64 v.at_,.int .u8 (v.x:Int),.slice v.A v.m v.c] 31))
 have R1:=h.grown hb0
 obtain ⟨q,cap,tq,g,off,c,G1⟩:=R1.rg
 obtain ⟨c0,_⟩:=G1.cells
 have HSP:=Lib.hid (Sh.stop_any (w.alloc (.cells #[.int .i64 v.kind,.int .i64 v.n,.int .i64 v.at_,.int .u8 (v.x:Int),.slice v.A v.m v.c] 31)).drew J.p v.n hn.1 hn.2 (R1.vr.grown (w':=(w.alloc (.cells #[.int .i64 v.kind,.int .i64 v.n,.int .i64 v.at_,.int .u8 (v.x:Int),.slice v.A v.m v.c] 31)).drew) ((Below.refl _ _).drew)).vo.ds.on.shelf)
 have HR1:=Lib.hid (R1.grown (w':=(w.alloc (.cells #[.int .i64 v.kind,.int .i64 v.n,.int .i64 v.at_,.int .u8 (v.x:Int),.slice v.A v.m v.c] 31)).drew) ((Below.refl _ _).drew))
 have HI:=Lib.hid (And.intro hi (And.intro hlast hlb))
 clear R1 G1
 unfold opV
 obtain ⟨kind,n,at_,x,vA,vm,vc,ks⟩:=v
 simp only at hk hn k0 k1 k2 k3 k4 HSP HR1 c0 hb0 ⊢
 subst hk
 clear h hi hlast hlb
 go_enter Tryz.func16,Tryz.ntmps16
 go_wp2_with fail
 go_region_with (go_at_call 28;refine HSP.out.mono ?_;rintro e w1 ⟨rfl,hsh,hon⟩)
 all_goals
  have HE:Hid (Good J.B J.W J.p r A kd m lb w1):=Lib.hid (by
   obtain ⟨hi,hlast,hlb⟩:=HI.out
   have hR:=HR1.out
   have hG:=hR.vr.goesV (hR.vr.vo.goes (hR.vr.vo.ds.left ⟨F,hsh,hon,fun b e=>.inl e⟩))
   obtain ⟨F',R2⟩:=hR.goes (a:=m) hG ⟨stop_waits hR.few.waits n,hR.few.opens,hR.few.used⟩
   exact ⟨J,A,S.doStop n,o,gh,D,U,F',may,rfl,rfl,rfl,⟨rfl,rfl,rfl,rfl⟩,R2,hi.stop n,fun e=>hlast (stop_on e),hlb⟩)
  clear hsh hon
  go_wp2
  go_ret
  exact ⟨rfl,HE.out⟩
end
section
variable {J:Vk} {w:World} {r m lb:Nat} {A:Ar} {S:Sh.Sf} {o:Nat→Int} {D U:Set0} {F:Nat→Prop} {kd:Bool} {may:Nat→List Sh.Bs} {gh:Gh}
set_option maxRecDepth 20000 in
set_option maxHeartbeats 4000000 in
theorem do_crash8 (h:Rig J w r A S o D U F kd may m) (hi:Inv A S o gh D U may kd) (hlb:∀j,j<A.St*(A.M-1)→(may j).length≤lb) (hl:lb≤50000) (hlb1:1≤lb) (hB:J.B=J.W.heap.size) (hT:Tbl J.B J.W) (hm:m≤400000000) (hN:A.St*(A.M-1)≤1000) (v:Sh.Op8) (hk:v.kind=8) (hd:Sh.I64 v.at_) (hkp:Sh.KeepIs J.W (Sh.Old J.W) v.A v.m v.ks) (hm9:v.m≤9223372036854775807) :
  Calls Tryz.prog 16 #[.pointer (some ⟨r,0,none⟩),opV v] w fun e w'=>e=.returned (.bool true)∧Good J.B J.W J.p r A kd 2000000 lb w':=by
 have hb0:Below w.heap.size w (w.alloc (.cells #[.int .i64 v.kind,.int .i64 v.n,.int .i64 v.at_,.int .u8 (v.x:Int),.slice v.A v.m v.c] 31)):=(Below.refl _ _).alloc (Nat.le_refl _) _
 obtain ⟨k0,k1,k2,k3,k4⟩:=op_cells (heap_alloc_new w (.cells #[.int .i64 v.kind,.int .i64 v.n,.int .i64 v.at_,.int .u8 (v.x:Int),.slice v.A v.m v.c] 31))
 obtain ⟨kk,hkk⟩:∃k,(v.at_%(200:Nat)).toNat=k:=⟨_,rfl⟩
 have hkk9:kk<200:=by omega
 have HMD:Hid (∀W,Calls Tryz.prog 24 #[.int .i64 v.at_,.int .i64 200] W fun e w'=>e=.returned (.int .i64 (kk:Int))∧W=w'):=Lib.hid (fun W=>by have:=mod8_any v.at_ 200 (by decide) (by decide) W;rw [hkk] at this;exact this)
 have HWR:=Lib.hid (crash_stop (h.grown (w':=(w.alloc (.cells #[.int .i64 v.kind,.int .i64 v.n,.int .i64 v.at_,.int .u8 (v.x:Int),.slice v.A v.m v.c] 31)).drew) (hb0.trans ((Below.refl _ _).drew.mono hb0.size))) hi hB hT hm hlb (by omega) hlb1 hN v.A v.m v.c hkp hm9 (kk:Int) (by omega) (by omega))
 unfold opV
 obtain ⟨kind,n,at_,x,vA,vm,vc,ks⟩:=v
 simp only at hk hd hkp hm9 hkk HMD k0 k1 k2 k3 k4 HWR hb0 ⊢
 subst hk
 clear h hi hlb hkk
 go_enter Tryz.func16,Tryz.ntmps16
 go_wp2_with fail
 refine wp_region_held_drew (S:=fun _=>True) (by kernel_rfl) trivial (fun hHeld=>?_)
 refine tk 0 188 ?_
 refine tk 1 189 ?_
 refine tk 3 191 ?_
 refine wpAnyH_ready (rs:=[2,4]) (by kernel_rfl) (by simp) ?_
 refine AllReadyH.cons (o:=⟨some 190,_,_,_,_,_⟩) rfl (fun K hK=>?_) (AllReadyH.cons (o:=⟨some 192,_,_,_,_,_⟩) rfl (fun K hK=>?_) AllReadyH.nil)
 ·go_simp
  refine hK.out _ _ trivial (fun hHeld=>?_)
  clear hK K
  try simp only [Act.put,List.setIfInBounds_toArray,List.set_cons_zero,List.set_cons_succ]
  refine r1 4 (some 192) fun K hK=>?_
  go_simp
  refine hK.out _ _ trivial (fun hHeld=>?_)
  clear hK K
  try simp only [Act.put,List.setIfInBounds_toArray,List.set_cons_zero,List.set_cons_succ]
  refine r1 5 (some 193) fun K hK=>?_
  go_simp
  refine (HMD.out _).mono ?_
  rintro e w' ⟨rfl,rfl⟩
  refine hK.out _ _ trivial (fun hHeld=>?_)
  clear hK K
  try simp only [Act.put,List.setIfInBounds_toArray,List.set_cons_zero,List.set_cons_succ]
  refine r1 6 (some 194) fun K hK=>?_
  go_simp
  refine (HWR.out).mono ?_
  rintro e w1 ⟨rfl,hg⟩
  refine hK.out _ _ trivial (fun hHeld=>?_)
  clear hK K
  try simp only [Act.put,List.setIfInBounds_toArray,List.set_cons_zero,List.set_cons_succ]
  refine tk 7 4 ?_
  refine wpAnyH_done (by kernel_rfl) ?_ _
  have HG:=Lib.hid hg
  clear hg
  go_wp2
  go_ret
  exact ⟨rfl,HG.out⟩
 ·go_simp
  refine hK.out _ _ trivial (fun hHeld=>?_)
  clear hK K
  try simp only [Act.put,List.setIfInBounds_toArray,List.set_cons_zero,List.set_cons_succ]
  refine wpAnyH_ready (rs:=[2,5]) (by kernel_rfl) (by simp) ?_
  refine AllReadyH.cons (o:=⟨some 190,_,_,_,_,_⟩) rfl (fun K hK=>?_) (AllReadyH.cons (o:=⟨some 193,_,_,_,_,_⟩) rfl (fun K hK=>?_) AllReadyH.nil)
  ·go_simp
   refine hK.out _ _ trivial (fun hHeld=>?_)
   clear hK K
   try simp only [Act.put,List.setIfInBounds_toArray,List.set_cons_zero,List.set_cons_succ]
   refine r1 5 (some 193) fun K hK=>?_
   go_simp
   refine (HMD.out _).mono ?_
   rintro e w' ⟨rfl,rfl⟩
   refine hK.out _ _ trivial (fun hHeld=>?_)
   clear hK K
   try simp only [Act.put,List.setIfInBounds_toArray,List.set_cons_zero,List.set_cons_succ]
   refine r1 6 (some 194) fun K hK=>?_
   go_simp
   refine (HWR.out).mono ?_
   rintro e w1 ⟨rfl,hg⟩
   refine hK.out _ _ trivial (fun hHeld=>?_)
   clear hK K
   try simp only [Act.put,List.setIfInBounds_toArray,List.set_cons_zero,List.set_cons_succ]
   refine tk 7 4 ?_
   refine wpAnyH_done (by kernel_rfl) ?_ _
   have HG:=Lib.hid hg
   clear hg
   go_wp2
   go_ret
   exact ⟨rfl,HG.out⟩
  ·go_simp
   refine (HMD.out _).mono ?_
   rintro e w' ⟨rfl,rfl⟩
   refine hK.out _ _ trivial (fun hHeld=>?_)
   clear hK K
   try simp only [Act.put,List.setIfInBounds_toArray,List.set_cons_zero,List.set_cons_succ]
   refine r1 2 (some 190) fun K hK=>?_
   go_simp
   refine hK.out _ _ trivial (fun hHeld=>?_)
   clear hK K
   try simp only [Act.put,List.setIfInBounds_toArray,List.set_cons_zero,List.set_cons_succ]
   refine r1 6 (some 194) fun K hK=>?_
   go_simp
   refine (HWR.out).mono ?_
   rintro e w1 ⟨rfl,hg⟩
   refine hK.out _ _ trivial (fun hHeld=>?_)
   clear hK K
   try simp only [Act.put,List.setIfInBounds_toArray,List.set_cons_zero,List.set_cons_succ]
   refine tk 7 4 ?_
   refine wpAnyH_done (by kernel_rfl) ?_ _
   have HG:=Lib.hid hg
   clear hg
   go_wp2
   go_ret
   exact ⟨rfl,HG.out⟩
end
theorem read_offO {S:Sh.Sf} {o:Nat→Int} {LL M St:Nat} {s:Go.Proofs.YthhldceidmphfaaGreatDoor.S.Sup} {n:Int} {y:Int} {X:Sh.Bs} {t:Stt} (hoff:S.off≠false) (hn:0≤n∧n<((St*(M-1):Nat):Int)) (hR:RdR LL s M St n S o y X t):y=3∧t=⟨S,o⟩:=by
 cases hR with
 | refused h0 =>
  refine ⟨?_,rfl⟩
  unfold refY hasB
  rw [decide_eq_true hn]
  have:S.off=true:=by simpa using hoff
  rw [this]
  rfl
 | there m y X t e1 e2 e3=>exact absurd e3 hoff
theorem offS {w:World} {p:Nat} {S:Sh.Sf} {F:Nat→Prop} (h:Sh.Shelf w p S F):Calls Tryz.prog 44 #[.pointer (some ⟨p,0,none⟩)] w fun e w'=>e=.returned (.bool S.off)∧w=w':=by
 obtain ⟨D0,gs,q⟩:=h
 exact Sh.off_any q
def trimK (may:Nat→List Sh.Bs) (k:Nat):Nat→List Sh.Bs:=fun j=>if j<k then (may j).drop ((may j).length-1) else may j
theorem trimK_0 (may:Nat→List Sh.Bs):trimK may 0=may:=by funext j;simp [trimK]
theorem trimK_at (may:Nat→List Sh.Bs) (k:Nat):trimK may k k=may k:=by simp [trimK]
theorem trimK_succ (may:Nat→List Sh.Bs) (k:Nat):trimK may (k+1)=fun j=>if j=k then (trimK may k j).drop ((trimK may k j).length-1) else trimK may k j:=by
 funext j
 unfold trimK
 by_cases e:j=k
 ·subst e;simp
 ·by_cases h:j<k
  ·rw [if_pos (by omega),if_neg e,if_pos h]
  ·rw [if_neg (by omega),if_neg e,if_neg h]
section
variable {J:Vk} {w w2:World} {r q cap tq m lb:Nat} {A:Ar} {S:Sh.Sf} {o:Nat→Int} {D U:Set0} {F F2:Nat→Prop} {kd:Bool} {may may':Nat→List Sh.Bs} {gh:Gh} {g off c:Nat→Nat} {y n:Int} {X:Sh.Bs} {t:Stt}
theorem rig_read (h:Rig J w r A S o D U F kd may m) (hi:Inv A S o gh D U may kd) (hlast:S.off=false→LastOk A gh may) (hR:RdR J.L A.s A.M A.St n S o y X t) (V2:Vr J w2 A.s t.o t.S F2 D U) (m2:Sh.Moves (AllV J F) w (AllV J F2) w2) :
  Rig J w2 r A t.S t.o D U F2 kd may (m+1000)∧Inv A t.S t.o gh D U may kd∧(t.S.off=false→LastOk A gh may) ∧
   ((¬(0≤n∧n<((A.St*(A.M-1):Nat):Int))∧y=1)∨∃k:Nat,n=(k:Int)∧k<A.St*(A.M-1)∧((y=3∧t.S.off=true)∨(y=0∧may k≠[]∧X=(may k).getD ((may k).length-1) []))):=by
 have hf:=h.few.read hR
 rw [h.L] at hR
 refine ⟨⟨V2,hf,h.n,h.L,h.rg.moves m2⟩,?_⟩
 by_cases hr:0≤n∧n<((A.St*(A.M-1):Nat):Int)
 ·obtain ⟨k,rfl⟩:∃k:Nat,n=(k:Int):=⟨n.toNat,by omega⟩
  by_cases hon:S.off=false
  ·obtain ⟨q1,q2,q3,q4⟩:=hi.read hon (by omega) hR
   obtain ⟨l1,l2⟩:=hlast hon k (by omega)
   exact ⟨q3,fun _=>hlast hon,.inr ⟨k,rfl,by omega,.inr ⟨q1,l1,q2.trans l2.symm⟩⟩⟩
  ·obtain ⟨rfl,rfl⟩:=read_offO hon hr hR
   exact ⟨hi,hlast,.inr ⟨k,rfl,by omega,.inl ⟨rfl,by simpa using hon⟩⟩⟩
 ·obtain ⟨rfl,rfl⟩:=read_out hr hR
  exact ⟨hi,hlast,.inl ⟨hr,rfl⟩⟩
theorem Rig.kills (h:Rig J w r A S o D U F kd may m) (kd':Bool):Rig J (w.setCell ⟨r,6,none⟩ (.bool kd')) r A S o D U F kd' may m:=by
 obtain ⟨q,cap,tq,g,off,c,hr⟩:=h.rg
 have ho:Sh.Only (fun b=>b=r) w (w.setCell ⟨r,6,none⟩ (.bool kd')):=(Sh.Only.refl (fun b=>b=r) w).setCell (p:=⟨r,6,none⟩) (.inl rfl) _
 have hb:∀x,x≠r→(w.setCell ⟨r,6,none⟩ (.bool kd')).heap[x]?=w.heap[x]?:=fun x hx=>heap_setCell_other w ⟨r,6,none⟩ x _ hx
 have hrow:=heap_setCell_same w r 6 _ _ (.bool kd') hr.row
 have hm:=hr.may
 refine ⟨only_vr h.vr ho hr.out hr.low hr.log,h.few,h.n,h.L,q,cap,tq,g,off,c,⟨hrow,?_,hr.low,hr.out,hr.log⟩⟩
 exact hm.same (fun _ e=>e) (hb q fun e=>hm.outq (.inr (.inl e))) (fun j hj=>hb _ fun e=>hm.outg j hj (.inr (.inl e))) ho.size fun b e=>.inl e
theorem Inv.killed (h:Inv A S o gh D U may kd) (hk:kd=false) (hlast:S.off=false→LastOk A gh may) {d:Nat} (hd:d<A.n):∃g',Inv A (S.doKill d) o g' D U may true∧((S.doKill d).off=false→LastOk A g' may) :=
 ⟨_,h.kill hk hd,fun e=>hlast e⟩
theorem Rig.trims {k:Nat} (h:Rig J w r A S o D U F kd (trimK may k) m) (hr:RgIs J w r q cap tq A kd (trimK may k) F g off c) (hk:k<A.St*(A.M-1)) (h0:0<(may k).length) :
  Rig J (w.setCell ⟨q,k,none⟩ (.slice (some ⟨g k,off k+((may k).length-1),none⟩) 1 (c k-((may k).length-1)))) r A S o D U F kd (trimK may (k+1)) m:=by
 have h1:=hr.may.trim (k:=k) hk (by rw [trimK_at];exact h0)
 rw [trimK_at,← trimK_succ] at h1
 exact h.table hr (X:=fun x=>x=q) (Sh.Only.setCell (F:=fun b=>b=q) (p:=⟨q,k,none⟩) (Sh.Only.refl _ _) (.inl rfl) _) (fun b e=>.inl e) h1
theorem MayIs.congr {N B:Nat} {G P:Nat→Prop} (h:MayIs N w B q G P may g off c) (he:∀j,P j→may j=may' j):MayIs N w B q G P may' g off c :=
 ⟨h.small,h.low,h.lt,h.there,h.free,fun k hk=>by rw [← he k hk];exact h.cells k hk,fun k hk=>by rw [← he k hk];exact h.mid k hk,h.glow,h.gne,h.inj,h.outq,h.outg⟩
theorem Rig.congr (h:Rig J w r A S o D U F kd may m) (he:∀j,j<A.St*(A.M-1)→may j=may' j):Rig J w r A S o D U F kd may' m:=by
 obtain ⟨q,cap,tq,g,off,c,hr⟩:=h.rg
 exact ⟨h.vr,h.few,h.n,h.L,q,cap,tq,g,off,c,⟨hr.row,hr.may.congr he,hr.low,hr.out,hr.log⟩⟩
theorem Rig.trimmed (h:Rig J w r A S o D U F kd (trimK may (A.St*(A.M-1))) m):Rig J w r A S o D U F kd (trimAll may) m:=h.congr fun j hj=>by unfold trimK trimAll;rw [if_pos hj]
def Flt (J:Vk) (r:Nat) (A:Ar) (S:Sh.Sf) (o:Nat→Int) (D U:Set0) (kd:Bool) (may:Nat→List Sh.Bs) (m k:Nat) (wr:World):Prop:=∃F,Rig J wr r A S o D U F kd (trimK may k) m
end
section
variable {J:Vk} {w:World} {r m lb:Nat} {A:Ar} {S:Sh.Sf} {o:Nat→Int} {D U:Set0} {F:Nat→Prop} {kd:Bool} {may:Nat→List Sh.Bs} {gh:Gh}
set_option maxRecDepth 20000 in
set_option maxHeartbeats 4000000 in
theorem do_read (h:Rig J w r A S o D U F kd may m) (hi:Inv A S o gh D U may kd) (hlast:S.off=false→LastOk A gh may) (hlb:∀j,j<A.St*(A.M-1)→(may j).length≤lb) (hl:lb≤50000) (hT:Tbl J.B J.W) (hm:m≤400000000) (v:Sh.Op8) (hk:v.kind=1) (hn:Sh.I64 v.n) :
  Calls Tryz.prog 16 #[.pointer (some ⟨r,0,none⟩),opV v] w fun e w'=>e=.returned (.bool true)∧Good J.B J.W J.p r A kd (m+1000) lb w':=by
 have hb0:Below w.heap.size w (w.alloc (.cells #[.int .i64 v.kind,.int .i64 v.n,.int .i64 v.at_,.int .u8 (v.x:Int),.slice v.A v.m v.c] 31)):=(Below.refl _ _).alloc (Nat.le_refl _) _
 have hbd:Below w.heap.size w (w.alloc (.cells #[.int .i64 v.kind,.int .i64 v.n,.int .i64 v.at_,.int .u8 (v.x:Int),.slice v.A v.m v.c] 31)).drew:=hb0.trans ((Below.refl _ _).drew.mono hb0.size)
 obtain ⟨k0,k1,k2,k3,k4⟩:=op_cells (heap_alloc_new w (.cells #[.int .i64 v.kind,.int .i64 v.n,.int .i64 v.at_,.int .u8 (v.x:Int),.slice v.A v.m v.c] 31))
 have R1:=h.grown hbd
 have hF:Fits J.n J.L A.s A.M A.St S:=h.fits hi
 have HRD:=Lib.hid (vRead_any R1.vr hF hT.tabs hT.tb v.n R1.few.waits (by omega))
 have HLT:=Lib.hid (fun b (e:AllV J F b)=>h.vr.lt b e)
 obtain ⟨q,cap,tq,g,off,c,G1⟩:=R1.rg
 obtain ⟨c0,c1,_,c5,_,_⟩:=G1.cells
 have hro:=G1.out
 have hrlt:=(Array.getElem?_eq_some_iff.1 G1.row).1
 have HN:=Lib.hid hn
 have HH:=Lib.hid (And.intro R1 (And.intro hi (And.intro hlast hlb)))
 unfold opV
 obtain ⟨kind,n,at_,x,vA,vm,vc,ks⟩:=v
 simp only at hk hn k0 k1 k2 k3 k4 HRD HH HN hb0 hbd c0 c1 c5 hrlt ⊢
 subst hk
 have kd1:(w.alloc (.cells #[.int .i64 1,.int .i64 n,.int .i64 at_,.int .u8 (x:Int),.slice vA vm vc] 31)).drew.cell? ⟨w.heap.size,1,none⟩=some (.int .i64 n):=k1
 have HS:Hid (∀(w2:World) (F2:Nat→Prop),Sh.Moves (AllV J F) (w.alloc (.cells #[.int .i64 1,.int .i64 n,.int .i64 at_,.int .u8 (x:Int),.slice vA vm vc] 31)).drew (AllV J F2) w2→w2.cell? ⟨r,1,none⟩=some (.pointer (some ⟨J.v,0,none⟩))∧w2.cell? ⟨w.heap.size,1,none⟩=some (.int .i64 n)):=Lib.hid fun w2 F2 m2 =>
  ⟨(World.cell?_of_block (a:=⟨r,1,none⟩) (m2.1.block r hrlt hro)).trans c1,(World.cell?_of_block (a:=⟨w.heap.size,1,none⟩) (m2.1.block w.heap.size (by simp) (fun e=>Nat.lt_irrefl _ (HLT.out _ e)))).trans kd1⟩
 clear h hi hlast hlb R1 hF G1
 go_enter Tryz.func16,Tryz.ntmps16
 go_wp2_with fail
 refine wp_region_held_drew (S:=fun W'=>W'.cell? ⟨r,1,none⟩=some (.pointer (some ⟨J.v,0,none⟩))∧W'.cell? ⟨w.heap.size,1,none⟩=some (.int .i64 n)) (by kernel_rfl) ⟨c1,kd1⟩ (fun hHeld=>?_)
 refine tk 0 14 ?_
 refine tk 1 15 ?_
 refine tk 2 16 ?_
 refine tk 4 18 ?_
 refine wpAnyH_take (i:=3) (oi:=⟨some 17,_,_,_,_,_⟩) (v:=?_) rfl (by kernel_rfl) (by kernel_rfl) (by kernel_rfl) (fun _ _ _ h=>h) (Or.inl ⟨by rfl,?_⟩) (by assumption) ?_
 rotate_left
 ·(intro w hSw;obtain ⟨hSa,hSb⟩:=hSw;(try dsimp only at hSw);go_simp;first | done | with_reducible rfl)
 try simp only [Act.put,List.setIfInBounds_toArray,List.set_cons_zero,List.set_cons_succ]
 refine wpAnyH_take (i:=5) (oi:=⟨some 19,_,_,_,_,_⟩) (v:=?_) rfl (by kernel_rfl) (by kernel_rfl) (by kernel_rfl) (fun _ _ _ h=>h) (Or.inl ⟨by rfl,?_⟩) (by assumption) ?_
 rotate_left
 ·(intro w hSw;obtain ⟨hSa,hSb⟩:=hSw;(try dsimp only at hSw);go_simp;first | done | with_reducible rfl)
 try simp only [Act.put,List.setIfInBounds_toArray,List.set_cons_zero,List.set_cons_succ]
 refine r1 6 (some 20) fun K hK=>?_
 go_simp
 refine (HRD.out).mono ?_
 rintro e w2 ⟨y,A2,len,c2,rfl,X,t,F2,hR,V2,m2,hres⟩
 refine hK.out _ _ (HS.out _ _ m2) (fun hHeld=>?_)
 clear hK K
 try simp only [Act.put,List.setIfInBounds_toArray,List.set_cons_zero,List.set_cons_succ]
 refine tk 7 13 ?_
 refine tk 8 21 ?_
 refine tk 9 22 ?_
 refine tk 10 5 ?_
 refine tk 11 6 ?_
 refine wpAnyH_done (by kernel_rfl) ?_ _
 obtain ⟨R1,hi,hlast,hlb⟩:=HH.out
 obtain ⟨R2,I2,L2,hcase⟩:=rig_read R1 hi hlast hR V2 m2
 have j1:=(HS.out _ _ m2).2
 obtain ⟨q2,cap2,tq2,g2,off2,cc2,G2⟩:=R2.rg
 obtain ⟨j0,_,_,j5,_,_⟩:=G2.cells
 have HG:Hid (∀W',Below w2.heap.size w2 W'→Good J.B J.W J.p r A kd (m+1000) lb W'):=Lib.hid fun W' hb=>⟨J,A,t.S,t.o,gh,D,U,F2,may,rfl,rfl,rfl,⟨rfl,rfl,rfl,rfl⟩,R2.grown hb,I2,L2,hlb⟩
 have HOF:=Lib.hid (fun nq=>offS (V2.grown (drawn (Below.refl w2.heap.size w2) nq)).vo.ds.on.shelf)
 have HLS:Hid (∀k:Nat,n=(k:Int)→k<A.St*(A.M-1)→may k≠[]→∀W',Below w2.heap.size w2 W'→Calls Tryz.prog 21 #[.pointer (some ⟨r,0,none⟩),.int .i64 n] W' fun e w'=>e=.returned (Sh.sv ((may k).getD ((may k).length-1) []))∧Below W'.heap.size W' w'):=Lib.hid fun k e hk hne W' hb=>by
  subst e
  have h0:(may k).length≠0:=fun e=>hne (List.eq_nil_of_length_eq_zero e)
  have:=hlb k hk
  exact last_any (G2.grown hb) k hk ((may k).length-1) (by omega) (by omega)
 clear R1 hi hlast hlb R2 I2 L2 G2 hR V2 m2 HS HRD HH HLT c0 c1 c5 k0 k1 k2 k3 k4 kd1 hro hrlt hb0 hbd hHeld
 rcases hcase with ⟨hno,rfl⟩ | ⟨k,hnk,hkN,⟨rfl,hoff⟩ | ⟨rfl,hne,hX⟩⟩
 ·obtain ⟨rfl,rfl,rfl⟩:A2=none∧len=0∧c2=0:=hres.elim (fun e=>absurd e.1 (by decide)) And.right
  clear hres HLS HOF
  have HE:=Lib.hid (fun nq=>HG.out _ (drawn (Below.refl w2.heap.size w2) nq))
  clear HG
  by_cases hneg:n<0
  ·have hd:decide (n<0)=true:=decide_eq_true hneg
   clear hno hneg
   go_wp2_with fail
   go_quiet (fail)
   go_wp2
   go_ret
   exact ⟨rfl,HE.out _⟩
  ·have hd:decide (n<0)=false:=decide_eq_false hneg
   have hd2:decide (n≥((A.St*(A.M-1):Nat):Int))=true:=decide_eq_true (by omega)
   clear hno hneg
   generalize A.St*(A.M-1)=N at *
   go_wp2_with fail
   go_quiet (fail)
   go_wp2
   go_ret
   exact ⟨rfl,HE.out _⟩
 ·obtain ⟨rfl,rfl,rfl⟩:A2=none∧len=0∧c2=0:=hres.elim (fun e=>absurd e.1 (by decide)) And.right
  clear hres HLS
  have hd:decide (n<0)=false:=decide_eq_false (by omega)
  have hd2:decide (n≥((A.St*(A.M-1):Nat):Int))=false:=decide_eq_false (by omega)
  have HE:=Lib.hid (fun nq=>HG.out _ (drawn (Below.refl w2.heap.size w2) nq))
  clear HG
  rw [hoff] at HOF
  generalize A.St*(A.M-1)=N at *
  go_wp2_with fail
  go_quiet (fail)
  go_wp2_with (go_at_call 44;refine (HOF.out _).mono ?_;rintro e w' ⟨rfl,rfl⟩)
  go_ret
  exact ⟨rfl,HE.out _⟩
 ·obtain ⟨hlen,hby⟩:len=128∧Sh.Bytes (w.alloc (.cells #[.int .i64 1,.int .i64 n,.int .i64 at_,.int .u8 (x:Int),.slice vA vm vc] 31)).drew w2 A2 X:=hres.elim (fun e=>⟨e.2.1,e.2.2.1⟩) (fun e=>absurd rfl e.1)
  subst hlen
  have hd:decide (n<0)=false:=decide_eq_false (by omega)
  have hd2:decide (n≥((A.St*(A.M-1):Nat):Int))=false:=decide_eq_false (by omega)
  have HL:=Lib.hid (HLS.out k hnk hkN hne)
  rw [← hX] at HL
  unfold Sh.sv at HL
  generalize hsv:Sh.strL X=sv at *
  have t1:=fun W' (hb:Below w2.heap.size w2 W')=>conv_bytes (c:=c2) hby hsv W' hb
  have hlt:=World.block_lt_of_cell? w2 _ j1
  have jb:=fun W' (hb:Below w2.heap.size w2 W')=>(hb.cell (p:=⟨w.heap.size,1,none⟩) hlt).trans j1
  clear hres HLS HOF hX hne hnk hkN hby hsv hlt
  generalize A.St*(A.M-1)=N at *
  go_wp2_with fail
  go_quiet (fail)
  go_wp2_with fail
  refine wp_region_held_drew (S:=fun W'=>Below w2.heap.size w2 W') (by kernel_rfl) (drawn (drawn (Below.refl w2.heap.size w2) _) 1) (fun hHeld=>?_)
  refine tk 0 55 ?_
  refine tk 1 56 ?_
  refine tk 2 57 ?_
  refine tk 3 58 ?_
  refine tk 4 59 ?_
  refine tk 5 60 ?_
  refine tk 6 61 ?_
  refine tk 7 62 ?_
  refine r1 8 (some 63) fun K hK=>?_
  go_simp
  refine (HL.out _ hHeld).mono ?_
  rintro e w9 ⟨rfl,hb9⟩
  refine hK.out _ _ (hHeld.trans (hb9.mono hHeld.size)) (fun hHeld=>?_)
  clear hK K
  try simp only [Act.put,List.setIfInBounds_toArray,List.set_cons_zero,List.set_cons_succ]
  refine tk 9 64 ?_
  refine tk 10 65 ?_
  refine tk 11 4 ?_
  refine wpAnyH_done (by kernel_rfl) ?_ _
  have HE:=Lib.hid (HG.out _ hHeld)
  clear HG hHeld jb t1
  go_wp2
  go_ret
  exact ⟨rfl,HE.out⟩
end
section
variable {J:Vk} {w:World} {r m lb:Nat} {A:Ar} {S:Sh.Sf} {o:Nat→Int} {D U:Set0} {F:Nat→Prop} {kd:Bool} {may:Nat→List Sh.Bs} {gh:Gh}
set_option maxRecDepth 20000 in
set_option maxHeartbeats 4000000 in
theorem do_flush (h:Rig J w r A S o D U F kd may m) (hi:Inv A S o gh D U may kd) (hlast:S.off=false→LastOk A gh may) (hlb:∀j,j<A.St*(A.M-1)→(may j).length≤lb) (hl:lb≤50000) (hT:Tbl J.B J.W) (hm:m≤400000000) (hN:A.St*(A.M-1)≤1000) (v:Sh.Op8) (hk:v.kind=3) :
  Calls Tryz.prog 16 #[.pointer (some ⟨r,0,none⟩),opV v] w fun e w'=>e=.returned (.bool true)∧Good J.B J.W J.p r A kd (m+1000) lb w':=by
 have hb0:Below w.heap.size w (w.alloc (.cells #[.int .i64 v.kind,.int .i64 v.n,.int .i64 v.at_,.int .u8 (v.x:Int),.slice v.A v.m v.c] 31)):=(Below.refl _ _).alloc (Nat.le_refl _) _
 obtain ⟨k0,k1,k2,k3,k4⟩:=op_cells (heap_alloc_new w (.cells #[.int .i64 v.kind,.int .i64 v.n,.int .i64 v.at_,.int .u8 (v.x:Int),.slice v.A v.m v.c] 31))
 have R1:=h.grown hb0
 have hF:Fits J.n J.L A.s A.M A.St S:=h.fits hi
 have HFL:=Lib.hid (vFlush_any R1.vr hF hT.tabs hT.tb R1.few.waits R1.few.used (by omega))
 obtain ⟨q,cap,tq,g,off,c,G1⟩:=R1.rg
 obtain ⟨c0,c1,_,c5,_,_⟩:=G1.cells
 have HH:=Lib.hid (And.intro R1 (And.intro hi (And.intro hlast hlb)))
 unfold opV
 obtain ⟨kind,n,at_,x,vA,vm,vc,ks⟩:=v
 simp only at hk k0 k1 k2 k3 k4 HFL HH hb0 c0 c1 c5 ⊢
 subst hk
 clear h hi hlast hlb R1 hF G1
 go_enter Tryz.func16,Tryz.ntmps16
 go_wp2_with fail
 refine HFL.out.mono ?_
 rintro e w2 ⟨y,rfl,b,D2,U2,hR,F2,V2,m2⟩
 obtain ⟨R1,hi,hlast,hlb⟩:=HH.out
 have hfw:=R1.few.flush (by rw [R1.n];exact hi.ci.ar.n17) (by rw [R1.L];exact hi.ci.ar.l8) hR
 rw [R1.n,R1.L] at hR
 obtain ⟨g',hcase⟩:=hi.flush hlast hR
 have R2:Rig J w2 r A b.S b.o D2 U2 F2 kd may (m+1000):=⟨V2,hfw,R1.n,R1.L,R1.rg.moves m2⟩
 have HNE:=Lib.hid (show ∀j,j<A.St*(A.M-1)→may j≠[]∧(may j).length≤lb from fun j hj=>⟨(fun e=>by have:=(hi.mays j hj).1;rw [e] at this;cases this),hlb j hj⟩)
 have HOF:=Lib.hid (offS V2.vo.ds.on.shelf)
 obtain ⟨q2,cap2,tq2,g2,off2,cc2,G2⟩:=R2.rg
 obtain ⟨j0,_,_,j5,_,_⟩:=G2.cells
 clear R1 hi hlast hlb hfw hR V2 m2 HH HFL c0 c1 c5 k0 k1 k2 k3 k4 hb0 G2
 rcases hcase with ⟨rfl,I2,L2⟩ | ⟨rfl,hof,I2⟩
 ·have HI:=Lib.hid (And.intro I2 L2)
  have H0:Hid (Flt J r A b.S b.o D2 U2 kd may (m+1000) 0 w2):=Lib.hid ⟨F2,by rw [trimK_0];exact R2⟩
  clear I2 L2 R2 HOF j0
  generalize hNN:A.St*(A.M-1)=N at *
  go_wp2_with fail
  go_loopw [8] (fun i wr=>∃k:Nat,k≤N∧i=.int .i64 k∧Hid (Flt J r A b.S b.o D2 U2 kd may (m+1000) k wr)) (fun i _=>N-(intOf i).toNat)
  case atStart=>exact ⟨0,Nat.zero_le _,rfl,H0⟩
  case round =>
   obtain ⟨k,hk,rfl,hrel⟩:=hrel
   clear H0 j5
   obtain ⟨F3,R3⟩:=hrel.out
   obtain ⟨q,cap,tq,g,off,cj,G3⟩:=R3.rg
   have c5:=G3.cells.2.2.2.1
   rw [hNN] at c5
   by_cases hlt:k<N
   ·have hltA:k<A.St*(A.M-1):=by omega
    obtain ⟨q0,hq0⟩:∃q0,(may k).length=q0+1:=⟨(may k).length-1,by have:=(HNE.out k hlt).1;have h0:(may k).length≠0:=fun e=>this (List.eq_nil_of_length_eq_zero e);omega⟩
    have kA:=G3.may.cells k hltA
    have hqc:=(G3.may.mid k hltA).le
    have kf:=G3.may.free k hltA
    have hrq:r≠q:=fun e=>G3.may.outq (.inr (.inl e.symm))
    rw [trimK_at,hq0] at kA hqc
    have hs1:(0:Int)≤((q0+1:Nat):Int)-1:=by omega
    have hq500:q0≤60000:=by have:=(HNE.out k hlt).2;omega
    have hB4:=R3.trims G3 hltA (by omega)
    have hB5:=(R3.grown (w':=wr.drew) ((Below.refl _ _).drew)).trims (G3.grown (w':=wr.drew) ((Below.refl _ _).drew)) hltA (by omega)
    rw [hq0] at hB4 hB5
    simp only [Nat.add_sub_cancel] at hB4 hB5
    have B4:Hid (Flt J r A b.S b.o D2 U2 kd may (m+1000) (k+1) _):=Lib.hid ⟨F3,hB4.grown ((Below.refl _ _).drew)⟩
    have B5:Hid (Flt J r A b.S b.o D2 U2 kd may (m+1000) (k+1) _):=Lib.hid ⟨F3,hB5⟩
    clear hB4 hB5
    have hwq:IntKind.i64.wrap (q0:Int)=(q0:Int):=IntWalk.i64_in _ ⟨by omega,by omega⟩
    have hc1:(q0:Int)≤(q0:Int)+1:=by omega
    have hcq:(cj k=q0)=False:=by simp;omega
    have q3:(k:Int)<(N:Int):=by omega
    have S0:wr.drew.cell? ⟨r,5,none⟩=some (.slice (some ⟨q,0,none⟩) N cap):=c5
    clear R3 G3 hq0 hrel hltA
    generalize g k=gj at *
    generalize off k=offj at *
    generalize cj k=cc at *
    have S9:Hid ((((wr.setCell ⟨q,k,none⟩ (.slice (some ⟨gj,offj+q0,none⟩) 1 (cc-q0))).drew).cell? ⟨r,5,none⟩=some (.slice (some ⟨q,0,none⟩) N cap))):=Lib.hid ((World.cell?_setCell_other _ _ _ _ (fun e=>hrq (congrArg Addr.block e).symm)).trans c5)
    have S8:Hid ((((wr.drew.setCell ⟨q,k,none⟩ (.slice (some ⟨gj,offj+q0,none⟩) 1 (cc-q0)))).cell? ⟨r,5,none⟩=some (.slice (some ⟨q,0,none⟩) N cap))):=Lib.hid ((World.cell?_setCell_other _ _ _ _ (fun e=>hrq (congrArg Addr.block e).symm)).trans c5)
    go_wp2_with fail
    refine wp_region_held_drew (S:=fun W'=>W'.cell? ⟨r,5,none⟩=some (.slice (some ⟨q,0,none⟩) N cap)) (by kernel_rfl) S0 (fun hHeld=>?_)
    refine tk 0 92 ?_
    refine tk 1 93 ?_
    refine tk 2 94 ?_
    refine tk 3 95 ?_
    refine tk 4 96 ?_
    refine tk 5 97 ?_
    refine tk 6 98 ?_
    refine tk 7 99 ?_
    refine tk 8 100 ?_
    refine tk 9 101 ?_
    refine tk 10 102 ?_
    refine tk 12 104 ?_
    refine tk 13 105 ?_
    refine tk 14 106 ?_
    refine tk 15 107 ?_
    refine tk 16 108 ?_
    refine tk 17 109 ?_
    refine wpAnyH_ready (rs:=[11,18]) (by kernel_rfl) (by simp) ?_
    refine AllReadyH.cons (o:=⟨some 103,_,_,_,_,_⟩) rfl (fun K hK=>?_) (AllReadyH.cons (o:=⟨some 110,_,_,_,_,_⟩) rfl (fun K hK=>?_) AllReadyH.nil)
    ·go_simp
     refine hK.out _ _ S0 (fun hHeld=>?_)
     clear hK K
     try simp only [Act.put,List.setIfInBounds_toArray,List.set_cons_zero,List.set_cons_succ]
     refine r1 18 (some 110) fun K hK=>?_
     go_simp
     refine hK.out _ _ S0 (fun hHeld=>?_)
     clear hK K
     try simp only [Act.put,List.setIfInBounds_toArray,List.set_cons_zero,List.set_cons_succ]
     refine tk 19 111 ?_
     refine tk 20 112 ?_
     refine tk 21 113 ?_
     refine tk 22 114 ?_
     refine r1 23 none fun K hK=>?_
     go_simp
     first | refine hK.out _ _ S9.out (fun _=>?_) | refine hK.out _ _ S8.out (fun _=>?_)
     clear hK K
     try simp only [Act.put,List.setIfInBounds_toArray,List.set_cons_zero,List.set_cons_succ]
     refine wpAnyH_done (by kernel_rfl) ?_ _
     go_wp2_with fail
     refine ⟨⟨k+1,by omega,by go_num,by first | exact B4 | exact B5⟩,?_⟩
     simp [intOf]
     omega
    ·go_simp
     refine hK.out _ _ S0 (fun hHeld=>?_)
     clear hK K
     try simp only [Act.put,List.setIfInBounds_toArray,List.set_cons_zero,List.set_cons_succ]
     refine tk 19 111 ?_
     refine tk 20 112 ?_
     refine r1 11 (some 103) fun K hK=>?_
     go_simp
     refine hK.out _ _ S0 (fun hHeld=>?_)
     clear hK K
     try simp only [Act.put,List.setIfInBounds_toArray,List.set_cons_zero,List.set_cons_succ]
     refine tk 21 113 ?_
     refine tk 22 114 ?_
     refine r1 23 none fun K hK=>?_
     go_simp
     first | refine hK.out _ _ S9.out (fun _=>?_) | refine hK.out _ _ S8.out (fun _=>?_)
     clear hK K
     try simp only [Act.put,List.setIfInBounds_toArray,List.set_cons_zero,List.set_cons_succ]
     refine wpAnyH_done (by kernel_rfl) ?_ _
     go_wp2_with fail
     refine ⟨⟨k+1,by omega,by go_num,by first | exact B4 | exact B5⟩,?_⟩
     simp [intOf]
     omega
   ·have e:k=N:=by omega
    have HE:=Lib.hid R3
    clear R3 G3
    go_wp2
    go_ret
    refine ⟨rfl,J,A,b.S,b.o,g',D2,U2,F3,trimAll may,rfl,rfl,rfl,⟨rfl,rfl,rfl,rfl⟩,Rig.trimmed (by have:=HE.out;rw [e,← hNN] at this;exact this),HI.out.1,HI.out.2,fun j hj=>?_⟩
    have:=(HNE.out j (by omega)).2
    unfold trimAll
    rw [List.length_drop]
    omega
 ·have hof2:b.S.off=true:=by simpa using hof
  have HE:Hid (Good J.B J.W J.p r A kd (m+1000) lb w2):=Lib.hid ⟨J,A,b.S,b.o,g',D2,U2,F2,may,rfl,rfl,rfl,⟨rfl,rfl,rfl,rfl⟩,R2,I2,fun e=>absurd e hof,fun j hj=>(HNE.out j hj).2⟩
  rw [hof2] at HOF
  clear hof hof2 I2 R2
  go_wp2_with (go_at_call 44;refine HOF.out.mono ?_;rintro e w' ⟨rfl,rfl⟩)
  go_ret
  exact ⟨rfl,HE.out⟩
end
section
variable {J:Vk} {w:World} {r m lb:Nat} {A:Ar} {S:Sh.Sf} {o:Nat→Int} {D U:Set0} {F:Nat→Prop} {kd:Bool} {may:Nat→List Sh.Bs} {gh:Gh}
set_option maxRecDepth 20000 in
set_option maxHeartbeats 4000000 in
theorem do_kill (h:Rig J w r A S o D U F kd may m) (hi:Inv A S o gh D U may kd) (hlast:S.off=false→LastOk A gh may) (hlb:∀j,j<A.St*(A.M-1)→(may j).length≤lb) (hn1:A.n=A.M+1) (v:Sh.Op8) (hk:v.kind=6) (hd:Sh.I64 v.at_) :
  Calls Tryz.prog 16 #[.pointer (some ⟨r,0,none⟩),opV v] w fun e w'=>e=.returned (.bool true)∧Good J.B J.W J.p r A true m lb w':=by
 have hb0:Below w.heap.size w (w.alloc (.cells #[.int .i64 v.kind,.int .i64 v.n,.int .i64 v.at_,.int .u8 (v.x:Int),.slice v.A v.m v.c] 31)):=(Below.refl _ _).alloc (Nat.le_refl _) _
 have hbd:Below w.heap.size w (w.alloc (.cells #[.int .i64 v.kind,.int .i64 v.n,.int .i64 v.at_,.int .u8 (v.x:Int),.slice v.A v.m v.c] 31)).drew:=hb0.trans ((Below.refl _ _).drew.mono hb0.size)
 obtain ⟨k0,k1,k2,k3,k4⟩:=op_cells (heap_alloc_new w (.cells #[.int .i64 v.kind,.int .i64 v.n,.int .i64 v.at_,.int .u8 (v.x:Int),.slice v.A v.m v.c] 31))
 have R1:=h.grown hbd
 obtain ⟨q,cap,tq,g,off,c,G1⟩:=R1.rg
 obtain ⟨c0,c1,c2,c5,c6,c8⟩:=G1.cells
 have hro:=G1.out
 have hrlt:=(Array.getElem?_eq_some_iff.1 G1.row).1
 have kf6w:=frozen_of_row _ _ 6 _ _ G1.row
 cases kd with
 | true =>
  have HE:Hid (Good J.B J.W J.p r A true m lb (w.alloc (.cells #[.int .i64 v.kind,.int .i64 v.n,.int .i64 v.at_,.int .u8 (v.x:Int),.slice v.A v.m v.c] 31))):=Lib.hid ⟨J,A,S,o,gh,D,U,F,may,rfl,rfl,rfl,⟨rfl,rfl,rfl,rfl⟩,h.grown hb0,hi,hlast,hlb⟩
  unfold opV
  obtain ⟨kind,n,at_,x,vA,vm,vc,ks⟩:=v
  simp only at hk hd k0 k1 k2 k3 k4 c6 HE hb0 ⊢
  subst hk
  have c6b:(w.alloc (.cells #[.int .i64 6,.int .i64 n,.int .i64 at_,.int .u8 (x:Int),.slice vA vm vc] 31)).cell? ⟨r,6,none⟩=some (.bool true):=c6
  clear h hi hlast hlb R1 G1 hn1 c0 c1 c2 c5 c6 c8 hbd
  go_enter Tryz.func16,Tryz.ntmps16
  go_wp2
  go_ret
  exact ⟨rfl,HE.out⟩
 | false =>
  have hm16:=hi.said.m16
  have hlen:=hi.ci.len
  obtain ⟨N1,hN1⟩:∃N1:Nat,N1=A.M+1:=⟨_,rfl⟩
  have hdn:(v.at_%(N1:Nat)).toNat<A.n:=by
   have h0:0≤v.at_%(N1:Int):=Int.emod_nonneg _ (by omega)
   have h1:v.at_%(N1:Int)<N1:=Int.emod_lt_of_pos _ (by omega)
   omega
  obtain ⟨kk,hkk⟩:∃k,(v.at_%(N1:Nat)).toNat=k:=⟨_,rfl⟩
  rw [hkk] at hdn
  have HMD:Hid (∀W,Calls Tryz.prog 24 #[.int .i64 v.at_,.int .i64 ((A.M:Int)+1)] W fun e w'=>e=.returned (.int .i64 (kk:Int))∧W=w'):=Lib.hid (fun W=>by have:=mod8_any v.at_ N1 (by omega) (by omega) W;rw [hkk] at this;rw [show ((A.M:Int)+1)=(N1:Int) by omega];exact this)
  have HKL:=Lib.hid (vkill R1.vr kk (by rw [hlen];exact hdn))
  have HLT:=Lib.hid (fun b (e:AllV J F b)=>h.vr.lt b e)
  have HH:=Lib.hid (And.intro R1 (And.intro hi (And.intro hlast (And.intro hlb hdn))))
  unfold opV
  obtain ⟨kind,n,at_,x,vA,vm,vc,ks⟩:=v
  simp only at hk hd hkk k0 k1 k2 k3 k4 HMD HKL HH hb0 hbd c0 c1 c2 c5 c6 c8 hrlt kf6w ⊢
  subst hk
  have kd2:(w.alloc (.cells #[.int .i64 6,.int .i64 n,.int .i64 at_,.int .u8 (x:Int),.slice vA vm vc] 31)).drew.cell? ⟨w.heap.size,2,none⟩=some (.int .i64 at_):=k2
  have HS:Hid (∀(w2:World) (F2:Nat→Prop),Sh.Moves (AllV J F) (w.alloc (.cells #[.int .i64 6,.int .i64 n,.int .i64 at_,.int .u8 (x:Int),.slice vA vm vc] 31)).drew (AllV J F2) w2→w2.cell? ⟨r,0,none⟩=some (.pointer (some ⟨J.p,0,none⟩))∧w2.cell? ⟨r,2,none⟩=some (.int .i64 A.M)∧w2.cell? ⟨w.heap.size,2,none⟩=some (.int .i64 at_)):=Lib.hid fun w2 F2 m2 =>
   ⟨(World.cell?_of_block (a:=⟨r,0,none⟩) (m2.1.block r hrlt hro)).trans c0,(World.cell?_of_block (a:=⟨r,2,none⟩) (m2.1.block r hrlt hro)).trans c2,(World.cell?_of_block (a:=⟨w.heap.size,2,none⟩) (m2.1.block w.heap.size (by simp) (fun e=>Nat.lt_irrefl _ (HLT.out _ e)))).trans kd2⟩
  have HS2:Hid (∀w2:World,(w2.cell? ⟨r,0,none⟩=some (.pointer (some ⟨J.p,0,none⟩))∧w2.cell? ⟨r,2,none⟩=some (.int .i64 A.M)∧w2.cell? ⟨w.heap.size,2,none⟩=some (.int .i64 at_))→(w2.setCell ⟨r,6,none⟩ (.bool true)).cell? ⟨r,0,none⟩=some (.pointer (some ⟨J.p,0,none⟩))∧(w2.setCell ⟨r,6,none⟩ (.bool true)).cell? ⟨r,2,none⟩=some (.int .i64 A.M)∧(w2.setCell ⟨r,6,none⟩ (.bool true)).cell? ⟨w.heap.size,2,none⟩=some (.int .i64 at_)):=Lib.hid fun w2 ⟨a0,a2,a3⟩ =>
   ⟨(World.cell?_setCell_other _ _ _ _ (by simp)).trans a0,(World.cell?_setCell_other _ _ _ _ (by simp)).trans a2,(World.cell?_setCell_other _ _ _ _ (by simp)).trans a3⟩
  have hm17:(A.M:Int)≤16:=by omega
  have hw:IntKind.i64.wrap ((A.M:Int)+1)=(A.M:Int)+1:=IntWalk.i64_in _ ⟨by omega,by omega⟩
  have c6b:(w.alloc (.cells #[.int .i64 6,.int .i64 n,.int .i64 at_,.int .u8 (x:Int),.slice vA vm vc] 31)).cell? ⟨r,6,none⟩=some (.bool false):=c6
  have c8b:(w.alloc (.cells #[.int .i64 6,.int .i64 n,.int .i64 at_,.int .u8 (x:Int),.slice vA vm vc] 31)).cell? ⟨r,8,none⟩=some (.bool false):=c8
  clear h hi hlast hlb R1 G1 hn1 hlen hdn hm16 hkk
  go_enter Tryz.func16,Tryz.ntmps16
  go_wp2_with fail
  refine wp_region_held_drew (S:=fun W'=>W'.cell? ⟨r,0,none⟩=some (.pointer (some ⟨J.p,0,none⟩))∧W'.cell? ⟨r,2,none⟩=some (.int .i64 A.M)∧W'.cell? ⟨w.heap.size,2,none⟩=some (.int .i64 at_)) (by kernel_rfl) ⟨c0,c2,kd2⟩ (fun hHeld=>?_)
  refine tk 0 157 ?_
  refine tk 1 158 ?_
  refine tk 2 159 ?_
  refine tk 3 160 ?_
  refine wpAnyH_take (i:=4) (oi:=⟨some 161,_,_,_,_,_⟩) (v:=?_) rfl (by kernel_rfl) (by kernel_rfl) (by kernel_rfl) (fun _ _ _ h=>h) (Or.inl ⟨by rfl,?_⟩) (by assumption) ?_
  rotate_left
  ·(intro w hSw;obtain ⟨hSa,hSb,hSc⟩:=hSw;(try dsimp only at hSw);go_simp;first | done | with_reducible rfl)
  try simp only [Act.put,List.setIfInBounds_toArray,List.set_cons_zero,List.set_cons_succ]
  refine tk 5 162 ?_
  refine wpAnyH_take (i:=6) (oi:=⟨some 163,_,_,_,_,_⟩) (v:=?_) rfl (by kernel_rfl) (by kernel_rfl) (by kernel_rfl) (fun _ _ _ h=>h) (Or.inl ⟨by rfl,?_⟩) (by assumption) ?_
  rotate_left
  ·(intro w hSw;obtain ⟨hSa,hSb,hSc⟩:=hSw;(try dsimp only at hSw);go_simp;first | done | with_reducible rfl)
  try simp only [Act.put,List.setIfInBounds_toArray,List.set_cons_zero,List.set_cons_succ]
  refine tk 7 164 ?_
  refine tk 8 165 ?_
  refine tk 9 166 ?_
  refine wpAnyH_take (i:=10) (oi:=⟨some 167,_,_,_,_,_⟩) (v:=?_) rfl (by kernel_rfl) (by kernel_rfl) (by kernel_rfl) (fun _ _ _ h=>h) (Or.inl ⟨by rfl,?_⟩) (by assumption) ?_
  rotate_left
  ·(intro w hSw;obtain ⟨hSa,hSb,hSc⟩:=hSw;(try dsimp only at hSw);go_simp;first | done | with_reducible rfl)
  try simp only [Act.put,List.setIfInBounds_toArray,List.set_cons_zero,List.set_cons_succ]
  refine tk 11 168 ?_
  refine r1 12 (some 169) fun K hK=>?_
  go_simp
  refine (HMD.out _).mono ?_
  rintro e w' ⟨rfl,rfl⟩
  refine hK.out _ _ hHeld (fun hHeld=>?_)
  clear hK K
  try simp only [Act.put,List.setIfInBounds_toArray,List.set_cons_zero,List.set_cons_succ]
  refine r1 13 (some 170) fun K hK=>?_
  go_simp
  refine (HKL.out).mono ?_
  rintro e w2 ⟨rfl,F2,V2,m2⟩
  refine hK.out _ _ (HS.out _ _ m2) (fun hHeld=>?_)
  clear hK K
  try simp only [Act.put,List.setIfInBounds_toArray,List.set_cons_zero,List.set_cons_succ]
  refine tk 14 171 ?_
  refine tk 15 172 ?_
  refine tk 16 173 ?_
  refine r1 17 none fun K hK=>?_
  have kf6:=(World.frozen?_of_block (a:=⟨r,6,none⟩) (m2.1.block r hrlt hro)).trans kf6w
  have kc6:=(World.cell?_of_block (a:=⟨r,6,none⟩) (m2.1.block r hrlt hro)).trans c6
  go_simp
  refine hK.out _ _ (HS2.out _ (HS.out _ _ m2)) (fun hHeld=>?_)
  clear hK K
  try simp only [Act.put,List.setIfInBounds_toArray,List.set_cons_zero,List.set_cons_succ]
  refine wpAnyH_done (by kernel_rfl) ?_ _
  obtain ⟨R1,hi,hlast,hlb,hdn⟩:=HH.out
  obtain ⟨g',I2,L2⟩:=hi.killed rfl hlast hdn
  have R2:Rig J w2 r A (S.doKill kk) o D U F2 false may m:=⟨V2,⟨kill_lens R1.few.waits _,R1.few.opens,R1.few.used⟩,R1.n,R1.L,R1.rg.moves m2⟩
  have HE:Hid (Good J.B J.W J.p r A true m lb (w2.setCell ⟨r,6,none⟩ (.bool true))):=Lib.hid ⟨J,A,_,o,g',D,U,F2,may,rfl,rfl,rfl,⟨rfl,rfl,rfl,rfl⟩,R2.kills true,I2,L2,hlb⟩
  clear R1 hi hlast hlb I2 L2 R2 V2 m2 kc6 kf6
  go_wp2
  go_ret
  exact ⟨rfl,HE.out⟩
end
theorem info_strs:(Tryz.prog.info? 52).map (fun i=>(i.zero,i.size,i.bytes))=some (some (.slice none 0 0),1,24):=by kernel_rfl
theorem info_bools:(Tryz.prog.info? 4).map (fun i=>(i.zero,i.size,i.bytes))=some (some (.bool false),1,1):=by kernel_rfl
structure Vals (w:World) (g n c:Nat) (l:List Value):Prop where
 len:l.length=n
 le:n≤c
 lt:g<w.heap.size
 there:∀j,j<c→(w.cell? ⟨g,j,none⟩).isSome=true
 free:∀j,j<c→w.frozen? ⟨g,j,none⟩=false
 at_:∀j,j<n→w.cell? ⟨g,j,none⟩=l[j]?
def OVals (w:World) (s:Value) (n:Nat) (l:List Value):Prop:=(s=.slice none 0 0∧n=0∧l=[])∨∃g c,s=.slice (some ⟨g,0,none⟩) n c∧Vals w g n c l
theorem zero_cells_V (z:Value) (k i:Nat) (h:i<k):∃u,(Builtin.zeroCells #[z] k)[i]?=some u:=⟨_,Array.getElem?_eq_getElem (by simp [Builtin.zeroCells];exact h)⟩
set_option maxRecDepth 20000 in
theorem run_append_vals (ty:TypeId) {w:World} {s:Value} {n cc:Nat} {l:List Value} (h:OVals w s n l) {ad:Addr} {x:Value} (hx:w.cell? ad=some x) (h1:x.oneCell'=true) (hn:n≤100000) :
  ∃g' c' w',(Builtin.append_ #[36,36] ty #[s,.slice (some ad) 1 cc]).run Tryz.prog w=.ok (.slice (some ⟨g',0,none⟩) (n+1) c') w'∧Vals w' g' (n+1) c' (l++[x])∧((∃c,s=.slice (some ⟨g',0,none⟩) n c∧w.grownBy w' (some g'))∨(g'=w.heap.size∧Below w.heap.size w w')):=by
 obtain ⟨i,hi,hz,hsz,hby⟩:=info_parts info_strs
 have hadd:ad.add 0=ad:=by unfold Addr.add;simp
 have hs:Src Tryz.prog i.size 36 (.slice (some ad) 1 cc) 1 [x] w:=by
  rw [hsz]
  refine Src.ofSlice w Tryz.underlying36 ad 1 cc _ rfl (fun j u hu=>?_) (fun u hu=>by simp at hu;subst hu;exact h1)
  match j,hu with
  | 0,hu=>rw [hadd,hx];exact hu
 have grow:∀(A0:Option Addr) (cp:Nat),n≤cp→¬n+1≤cp→l.length=n→(Builtin.firstCells i.size n (.slice A0 n cp)).run Tryz.prog w.drew=.ok l.toArray w.drew →
   ∃g' c' w',(Builtin.append_ #[36,36] ty #[.slice A0 n cp,.slice (some ad) 1 cc]).run Tryz.prog w=.ok (.slice (some ⟨g',0,none⟩) (n+1) c') w'∧Vals w' g' (n+1) c' (l++[x])∧(g'=w.heap.size∧Below w.heap.size w w'):=by
  intro A0 cp h1' h2 hl hold
  obtain rfl:cp=n:=by omega
  have hg:=grownCap_ge w (cp+1) cp 52
  refine ⟨w.heap.size,_,_,run_append_grow_src w _ _ ty _ i _ Tryz.underlying36 hi hz A0 cp cp l hold _ 1 _ hs (by omega) (by omega) (by rw [hby];have:=nextslicecap_le (need:=cp+1) (old:=cp) (by omega);omega),?_,rfl,?_⟩
  ·generalize hG:grownCap w (cp+1) cp 52=G at *
   have hrow:(w.drew.alloc (.cells ((l++[x]).toArray++Builtin.zeroCells (Value.slice none 0 0).cells (G-(cp+1))) 52)).heap[w.heap.size]?=_:=heap_alloc_new w.drew _
   have hlen:(l++[x]).toArray.size=cp+1:=by simp [hl]
   refine ⟨by simp [hl],hg,by simp,fun j hj=>?_,fun j _=>frozen_of_row _ _ _ _ _ hrow,fun j hj=>?_⟩
   ·rw [cell_of_row _ _ j _ _ _ hrow]
    by_cases hjc:j<cp+1
    ·rw [Array.getElem?_append_left (by rw [hlen];exact hjc),List.getElem?_toArray,List.getElem?_eq_getElem (by simp [hl];omega)];rfl
    ·rw [Array.getElem?_append_right (by rw [hlen];omega),hlen]
     obtain ⟨u,hu⟩:=zero_cells_V (.slice none 0 0) (G-(cp+1)) (j-(cp+1)) (by omega)
     exact (congrArg Option.isSome hu).trans rfl
   ·rw [cell_of_row _ _ j _ _ _ hrow,Array.getElem?_append_left (by rw [hlen];exact hj),List.getElem?_toArray]
  ·exact (Below.refl _ _).drew.alloc (Nat.le_refl _) _
 rcases h with ⟨rfl,rfl,rfl⟩ | ⟨g,c,rfl,h⟩
 ·obtain ⟨g',c',w',h1,h2,h3⟩:=grow none 0 (Nat.le_refl _) (by omega) rfl (by rw [hsz];exact run_firstCells_none w.drew 1 0 0 0)
  exact ⟨g',c',w',h1,h2,.inr h3⟩
 ·by_cases hr:n+1≤c
  ·refine ⟨g,c,_,run_append_room_src w _ _ ty _ i Tryz.underlying36 hi g 0 n c _ 1 _ hs hr (fun j hj=>?_) (fun j hj=>?_),?_,.inl ⟨c,rfl,?_⟩⟩
   ·rw [hsz]
    obtain rfl:j=0:=by simpa using hj
    simp only [Nat.mul_one,Nat.zero_add,Nat.add_zero];exact h.there n (by omega)
   ·rw [hsz]
    obtain rfl:j=0:=by simpa using hj
    simp only [Nat.mul_one,Nat.zero_add,Nat.add_zero];exact h.free n (by omega)
   ·rw [hsz]
    have hin:∀j,j<([x]).length→(w.cell? ⟨g,0+n*1+j,none⟩).isSome=true:=fun j hj=>by
     obtain rfl:j=0:=by simpa using hj
     simp only [Nat.mul_one,Nat.zero_add,Nat.add_zero];exact h.there n (by omega)
    refine ⟨by simp [h.len],hr,?_,fun j hj=>World.isSome_setCells _ _ _ _ _ (h.there j hj),fun j hj=>by rw [World.frozen?_setCells];exact h.free j hj,fun j hj=>?_⟩
    ·exact World.block_lt_of_cell? (w.setCells g (0+n*1) [x]) _ (World.cell?_setCells_in g _ _ w hin 0 (by simp))
    ·by_cases e:j=n
     ·subst e
      have:=World.cell?_setCells_in g _ _ w hin 0 (by simp)
      simp only [Nat.mul_one,Nat.zero_add,Nat.add_zero] at this ⊢
      rw [this,← h.len]
      simp
     ·rw [World.cell?_setCells_out g _ _ w _ (fun _ _=>.inl (by show j<0+n*1;omega)),h.at_ j (by omega),List.getElem?_append_left (by rw [h.len];omega)]
   ·rw [hsz]
    show w.grownBy (w.setCell ⟨g,0+n*1,none⟩ x) (some g)
    have hO:Sh.Only (fun b=>b=g) w (w.setCell ⟨g,0+n*1,none⟩ x):=(Sh.Only.refl (fun b=>b=g) w).setCell (p:=⟨g,0+n*1,none⟩) (.inl rfl) _
    exact ⟨hO.os,hO.tape,hO.output,hO.size,fun k _ hk=>Sh.heap_set_other w ⟨g,0+n*1,none⟩ _ (fun e=>hk (by rw [e]))⟩
  ·have hold:(Builtin.firstCells i.size n (.slice (some ⟨g,0,none⟩) n c)).run Tryz.prog w.drew=.ok l.toArray w.drew:=by
    rw [hsz]
    refine run_firstCells_some w.drew 1 n ⟨g,0,none⟩ n c l (by rw [h.len,Nat.mul_one]) (fun j v hv=>?_)
    have hj:j<l.length:=by
     rcases Nat.lt_or_ge j l.length with h | h
     ·exact h
     ·rw [List.getElem?_eq_none h] at hv;cases hv
    rw [Addr.add_mid,Nat.zero_add]
    exact (h.at_ j (by rw [← h.len];exact hj)).trans hv
   obtain ⟨g',c',w',h1,h2,h3⟩:=grow (some ⟨g,0,none⟩) c h.le hr h.len hold
   exact ⟨g',c',w',h1,h2,.inr h3⟩
theorem wp_append_vals {o:Oper} {a:Act} {w:World} {K:Act→World→Prop} {Q:Exit→Act→World→Prop} (so x:Operand)
  (ho:o.op=.call { callee:=.builtin .append,args:=#[so,x],argTypes:=#[36,36] })
  {s v:Value} {n cc:Nat} {l:List Value} {ad:Addr} (hs:a.eval so=s) (hx:a.eval x=.slice (some ad) 1 cc) (h:OVals w s n l) (hb:w.cell? ad=some v) (h1:v.oneCell'=true) (hn:n≤100000)
  (hk:∀g' c' w',Vals w' g' (n+1) c' (l++[v])→((∃c,s=.slice (some ⟨g',0,none⟩) n c∧w.grownBy w' (some g'))∨(g'=w.heap.size∧Below w.heap.size w w'))→K (a.put o.dst (.slice (some ⟨g',0,none⟩) (n+1) c')) w'):Oper.wp Tryz.prog o a w K Q:=by
 obtain ⟨g',c',w',hr,h2,h3⟩:=run_append_vals (cc:=cc) o.type h hb h1 hn
 unfold Oper.wp execOp
 simp only [ho,resolve,invoke,builtin,Sem.run_bind,Sem.run_pure,Result.andThen_ok,List.map_toArray,List.map_cons,List.map_nil,hs,hx,hr]
 exact hk g' c' w' h2 h3
def rowB (p v M St L:Nat) (s:Value) (tq:Nat):Array Value:=#[.pointer (some ⟨p,0,none⟩),.pointer (some ⟨v,0,none⟩),.int .i64 M,.int .i64 St,.int .i64 L,s,.bool false,.slice (some ⟨tq,0,none⟩) St St,.bool false]
structure BegI (J:Vk) (w:World) (r tq:Nat) (A:Ar) (S:Sh.Sf) (o:Nat→Int) (F:Nat→Prop) (i:Nat) (s:Value) (g:Nat→Nat):Prop where
 vr:Vr J w A.s o S F noSet noSet
 row:w.heap[r]?=some (.cells (rowB J.p J.v A.M A.St A.L s tq) 39 (0,0))
 low:J.B≤r
 out:¬AllV J F r
 log:∀i,i<J.n→J.gn i≠r
 tab:OVals w s i ((List.range i).map fun j=>.slice (some ⟨g j,0,none⟩) 1 1)
 mid:∀j,j<i→Sh.Mids w (g j) 0 1 1 [Sh.noughts]∧J.B≤g j∧¬RG J r F (g j)
 inj:∀j k,j<i→k<i→g j=g k→j=k
 own:∀q n c,s=.slice (some ⟨q,0,none⟩) n c→J.B≤q∧¬RG J r F q∧∀j,j<i→g j≠q
section
variable {J:Vk} {w w' w3 w4:World} {r tq i:Nat} {A:Ar} {S:Sh.Sf} {o:Nat→Int} {F:Nat→Prop} {s:Value} {g:Nat→Nat}
theorem OVals.grown {n:Nat} {l:List Value} (h:OVals w s n l) (hb:Below w.heap.size w w'):OVals w' s n l:=by
 rcases h with h | ⟨q,c,e,h⟩
 ·exact .inl h
 ·have hq:=hb.block q h.lt
  exact .inr ⟨q,c,e,h.len,h.le,Nat.lt_of_lt_of_le h.lt hb.size,fun j hj=>by rw [World.cell?_of_block (w:=w) hq];exact h.there j hj,fun j hj=>by rw [World.frozen?_of_block (w:=w) hq];exact h.free j hj,fun j hj=>by rw [World.cell?_of_block (w:=w) hq];exact h.at_ j hj⟩
theorem BegI.grown (h:BegI J w r tq A S o F i s g) (hb:Below w.heap.size w w'):BegI J w' r tq A S o F i s g :=
 ⟨h.vr.grown hb,(hb.block r (Array.getElem?_eq_some_iff.1 h.row).1).trans h.row,h.low,h.out,h.log,h.tab.grown hb,fun j hj=>⟨(h.mid j hj).1.same (hb.block _ (h.mid j hj).1.lt) hb.size,(h.mid j hj).2⟩,h.inj,h.own⟩
theorem BegI.cells (h:BegI J w r tq A S o F i s g):w.cell? ⟨r,5,none⟩=some s∧w.frozen? ⟨r,5,none⟩=false :=
 ⟨cell_of_row _ _ 5 _ _ _ h.row,frozen_of_row _ _ 5 _ _ h.row⟩
theorem BegI.lt (h:BegI J w r tq A S o F i s g):∀b,RG J r F b→b<w.heap.size:=by
 rintro b (e | rfl | ⟨i,hi,rfl⟩)
 ·exact h.vr.lt b e
 ·exact (Array.getElem?_eq_some_iff.1 h.row).1
 ·exact World.block_lt_of_cell? w _ (h.vr.logs.log i hi).c0
theorem range_snoc (i:Nat) (f f':Nat→Value) (h:∀j,j<i→f' j=f j):(List.range (i+1)).map f'=(List.range i).map f++[f' i]:=by
 rw [List.range_succ,List.map_append]
 congr 1
 exact List.map_congr_left fun j hj=>h j (by simpa using hj)
theorem mids_new (w:World) (t:TypeId) (b:Sh.Bs):Sh.Mids (w.alloc (.cells #[Sh.sv b] t)) w.heap.size 0 1 1 [b]:=by
 have hrow:=heap_alloc_new w (.cells #[Sh.sv b] t)
 refine ⟨rfl,Nat.le_refl _,by simp,fun j hj=>?_,fun j _=>frozen_of_row _ _ _ _ _ hrow,fun j hj=>?_⟩
 ·obtain rfl:j=0:=by omega
  rw [cell_of_row _ _ (0+0) _ _ _ hrow];rfl
 ·obtain rfl:j=0:=by omega
  rw [cell_of_row _ _ (0+0) _ _ _ hrow];rfl
theorem mids_grown {w w':World} {g off n c:Nat} {l:List Sh.Bs} (h:Sh.Mids w g off n c l) (hb:Below w.heap.size w w'):Sh.Mids w' g off n c l:=h.same (hb.block _ h.lt) hb.size
theorem wp_make128 {o:Oper} {a:Act} {w:World} {K:Act→World→Prop} {Q:Exit→Act→World→Prop} (l c:Operand) (hop:o.op=Op.makeSlice 45 l c) (hl:a.eval l=.int .i64 128) (hc:a.eval c=.int .i64 128)
  (hK:∀w',w'.ownsRow w.heap.size 5 1 (.slice (some ⟨w.heap.size,0,none⟩) 128 128) 128 (bts Sh.noughts)→Below w.heap.size w w'→K (a.put o.dst (.slice (some ⟨w.heap.size,0,none⟩) 128 128)) w'):Oper.wp Tryz.prog o a w K Q:=by
 obtain ⟨i1,ki,kz0,kz1,kz2⟩:=info_parts (show (Tryz.prog.info? 5).map (fun i=>(i.zero,i.size,i.bytes))=some (some (.int .u8 0),1,1) by kernel_rfl)
 obtain ⟨w',hrun,r1,r2⟩:=run_make_full (P:=Tryz.prog) w w.heap.size 45 5 i1 _ 1 Tryz.underlying45 ki kz0 kz1 .i64 .i64 128 (by rw [kz2];omega) (by unfold maxLen;omega) (Nat.le_refl _)
 have hrun':(Instr.makeSlice 45 (.int .i64 128) (.int .i64 128)).run Tryz.prog w=.ok (.slice (some ⟨w.heap.size,0,none⟩) 128 128) w':=hrun
 unfold Oper.wp
 simp [execOp,hop,hl,hc,hrun',Result.andThen]
 exact hK _ (Sh.noughts_own r1) ((Below.refl _ w).grown r2 (Nat.le_refl _) (fun _ h=>by cases h))
theorem make_bools (w:World) (n:Nat) (hn:n≤1000):∃w',(Instr.makeSlice 37 (.int .i64 n) (.int .i64 n)).run Tryz.prog w=.ok (.slice (some ⟨w.heap.size,0,none⟩) n n) w'∧Below w.heap.size w w':=by
 obtain ⟨i1,ki,kz0,kz1,kz2⟩:=info_parts info_bools
 obtain ⟨w',hrun,r1,r2⟩:=run_make_full (P:=Tryz.prog) w w.heap.size 37 4 i1 _ 1 Tryz.underlying37 ki kz0 kz1 .i64 .i64 n (by rw [kz2];omega) (by unfold maxLen;omega) (Nat.le_refl _)
 exact ⟨w',hrun,(Below.refl _ w).grown r2 (Nat.le_refl _) (fun _ h=>by cases h)⟩
theorem BegI.next (h:BegI J w r tq A S o F i s g) {x q' c':Nat} (hb:Below w.heap.size w w3) (hx:w.heap.size≤x) (hm:Sh.Mids w3 x 0 1 1 [Sh.noughts])
  (hv:Vals w4 q' (i+1) c' ((List.range i).map (fun j=>Value.slice (some ⟨g j,0,none⟩) 1 1)++[.slice (some ⟨x,0,none⟩) 1 1]))
  (ha:(∃c,s=.slice (some ⟨q',0,none⟩) i c∧w3.grownBy w4 (some q'))∨(q'=w3.heap.size∧Below w3.heap.size w3 w4)) :
  BegI J (w4.setCell ⟨r,5,none⟩ (.slice (some ⟨q',0,none⟩) (i+1) c')) r tq A S o F (i+1) (.slice (some ⟨q',0,none⟩) (i+1) c') (fun j=>if j=i then x else g j):=by
 have h3:=h.grown hb
 have hlt3:=h3.lt
 have hltw:=h.lt
 have hrlt:=hlt3 r (.inr (.inl rfl))
 have hsz:=h3.vr.size
 -- the table's block
 have hq:¬RG J r F q'∧J.B≤q'∧(∀j,j<i→g j≠q')∧x≠q':=by
  rcases ha with ⟨c,e,_⟩ | ⟨e,_⟩
  ·obtain ⟨a1,a2,a3⟩:=h3.own q' i c e
   refine ⟨a2,a1,a3,fun e2=>?_⟩
   rcases h.tab with ⟨e3,_⟩ | ⟨q,c3,e3,hvv⟩
   ·rw [e3] at e;cases e
   ·rw [e3] at e
    injection e with e4 e5 e6
    injection e4 with e4
    injection e4 with e4
    have:=hvv.lt
    omega
  ·refine ⟨fun e2=>?_,by omega,fun j hj e2=>?_,fun e2=>?_⟩
   ·have:=hlt3 _ e2;omega
   ·have:=(h3.mid j hj).1.lt;omega
   ·have:=hm.lt;omega
 have ho4:Sh.Only (fun b=>b=q') w3 w4:=by
  rcases ha with ⟨c,e,hg⟩ | ⟨e,hb4⟩
  ·exact ⟨hg.os,hg.tape,hg.output,hg.size,fun k hk hn=>hg.block k hk (fun e=>hn (by injection e))⟩
  ·exact ⟨hb4.os,hb4.tape,hb4.output,hb4.size,fun k hk hn=>hb4.block k hk⟩
 have ho:Sh.Only (fun b=>b=q'∨b=r) w3 (w4.setCell ⟨r,5,none⟩ (.slice (some ⟨q',0,none⟩) (i+1) c')) :=
  (ho4.mono fun _ e=>.inl e).setCell (p:=⟨r,5,none⟩) (.inl (.inr rfl)) _
 have hrq:r≠q':=fun e=>hq.1 (.inr (.inl e.symm))
 have hb5:∀k,k≠r→(w4.setCell ⟨r,5,none⟩ (.slice (some ⟨q',0,none⟩) (i+1) c')).heap[k]?=w4.heap[k]?:=fun k hk=>heap_setCell_other w4 ⟨r,5,none⟩ k _ hk
 have hrow4:=(ho4.block r hrlt hrq).trans h3.row
 have hrow:=heap_setCell_same w4 r 5 _ _ (.slice (some ⟨q',0,none⟩) (i+1) c') hrow4
 have hsz5:w4.heap.size≤(w4.setCell ⟨r,5,none⟩ (.slice (some ⟨q',0,none⟩) (i+1) c')).heap.size:=by simp
 refine ⟨h3.vr.only_tab ho ?_ (h3.vr.bel.trans (ho.below (fun b e=>e.elim (fun e=>e▸hq.2.1) (fun e=>e▸h.low)) hsz)) ?_,hrow,h.low,h.out,h.log,?_,fun j hj=>?_,fun j k hj hk e=>?_,fun q n c e=>?_⟩
 ·intro b hb e
  rcases e with rfl | rfl
  ·exact hq.1 (.inl hb)
  ·exact h.out hb
 ·intro j hj
  refine ho.block _ (hlt3 _ (.inr (.inr ⟨j,hj,rfl⟩))) fun e=>?_
  rcases e with e | e
  ·exact hq.1 (.inr (.inr ⟨j,hj,e.symm⟩))
  ·exact h.log j hj e
 ·refine .inr ⟨q',c',rfl,?_⟩
  rw [range_snoc i (fun j=>Value.slice (some ⟨g j,0,none⟩) 1 1) (fun j=>Value.slice (some ⟨if j=i then x else g j,0,none⟩) 1 1) (fun j hj=>by show Value.slice (some ⟨if j=i then x else g j,0,none⟩) 1 1=_;rw [if_neg (by omega)])]
  simp only [if_true]
  have hqb:=hb5 q' (Ne.symm hrq)
  exact ⟨hv.len,hv.le,Nat.lt_of_lt_of_le hv.lt hsz5,fun j hj=>by rw [World.cell?_of_block (w:=w4) hqb];exact hv.there j hj,fun j hj=>by rw [World.frozen?_of_block (w:=w4) hqb];exact hv.free j hj,fun j hj=>by rw [World.cell?_of_block (w:=w4) hqb];exact hv.at_ j hj⟩
 ·by_cases e:j=i
  ·simp only [e,if_true]
   have hxr:¬RG J r F x:=fun e2=>by have:=hltw x e2;omega
   refine ⟨hm.same ?_ (Nat.le_trans ho4.size hsz5),by have:=h.vr.size;omega,hxr⟩
   rw [hb5 x fun e2=>hxr (.inr (.inl e2))]
   exact ho4.block x hm.lt hq.2.2.2
  ·simp only [e,if_false]
   obtain ⟨m1,m2,m3⟩:=h3.mid j (by omega)
   refine ⟨m1.same ?_ (Nat.le_trans ho4.size hsz5),m2,m3⟩
   rw [hb5 _ fun e2=>m3 (.inr (.inl e2))]
   exact ho4.block _ m1.lt (hq.2.2.1 j (by omega))
 ·have hne:∀j,j<i→g j≠x:=fun j hj e2=>by have:=(h.mid j hj).1.lt;omega
  by_cases e1:j=i<;>by_cases e2:k=i
  ·rw [e1,e2]
  ·simp only [e1,e2,if_true,if_false] at e
   exact absurd e.symm (hne k (by omega))
  ·simp only [e1,e2,if_true,if_false] at e
   exact absurd e (hne j (by omega))
  ·simp only [e1,e2,if_false] at e
   exact h.inj j k (by omega) (by omega) e
 ·injection e with e4 e5 e6
  injection e4 with e4
  injection e4 with e4
  subst e4
  refine ⟨hq.2.1,hq.1,fun j hj=>?_⟩
  by_cases e1:j=i
  ·simp only [e1,if_true];exact hq.2.2.2
  ·simp only [e1,if_false];exact hq.2.2.1 j (by omega)
theorem BegI.rig {m:Nat} (h:BegI J w r tq A S o F i s g) (hi:i=A.St*(A.M-1)) (h0:0<i) (hf:Few S noSet noSet m) (hn:J.n=A.n) (hL:J.L=A.L):Rig J w r A S o noSet noSet F false (fun _=>[Sh.noughts]) m:=by
 subst hi
 rcases h.tab with ⟨_,e,_⟩ | ⟨q,c,e,hv⟩
 ·omega
 ·obtain ⟨o1,o2,o3⟩:=h.own q _ c e
  have hrow:=h.row
  rw [e] at hrow
  have hle:=hv.le
  refine ⟨h.vr,hf,hn,hL,q,c,tq,g,fun _=>0,fun _=>1,hrow,⟨fun k hk=>hk,o1,hv.lt,fun k hk=>hv.there k (by omega),fun k hk=>hv.free k (by omega),fun k hk=>?_,fun k hk=>(h.mid k hk).1,fun k hk=>(h.mid k hk).2.1,fun k hk=>o3 k hk,fun a b ha hb e=>h.inj a b ha hb e,o2,fun k hk=>(h.mid k hk).2.2⟩,h.low,h.out,h.log⟩
  rw [hv.at_ k hk]
  simp [hk]
end
end Go.Proofs.YthhldceidmphfaaGreatDoor.U
