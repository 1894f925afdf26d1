/-
  What the statement's proof rests on, part 7.
  Conditions: each theorem's own.
-/
import Derived.Test.YtcnjpmcelihknaaGreatDoorV04
import Derived.Handy
import Derived.Deep.WholeRow
import Derived.Deep.RegionHeld3
open Go.Lib (hid)
namespace Go.Proofs.YtcnjpmcelihknaaGreatDoor.S
open Go.RowKit
structure Sup where
 gen:Int
 mem:Int
 disk:Int
 str:Int
 logs:Int
 spare:Int
 mark:Int
 cur:Int
def Sup.cells (s:Sup):Array Value:=#[.int .i64 s.gen,.int .i64 s.mem,.int .i64 s.disk,.int .i64 s.str,.int .i64 s.logs,.int .i64 s.spare,.int .i64 s.mark,.int .i64 s.cur]
def Sup.val (s:Sup):Value:=.agg s.cells
def Sup.most (s:Sup):Int:=if s.spare=-1 then 0 else s.str
def Sup.right (s:Sup):Bool :=
 decide (1<=s.gen/\s.gen<=4611686018427387904) && decide (3<=s.mem/\s.mem<=16) && decide (0<=s.disk/\s.disk<=s.mem) && decide (1<=s.str/\s.str<=1024) &&
 decide (1<=s.logs/\s.logs<=8) && decide (-1<=s.spare/\s.spare<=s.mem-1) && decide (0<=s.mark/\s.mark<=s.most) && decide (0<=s.cur/\s.cur<=s.str-1)
theorem within_any (x l m:Int) (w:World) :
  Calls Tryz.prog 182 #[.int .i64 x,.int .i64 l,.int .i64 m] w fun e w'=>e=.returned (.bool (decide (l<=x/\x<=m)))/\w=w':=by
 by_cases h1:l<=x
 ·by_cases h2:x<=m
  ·have hc:decide (l<=x/\x<=m)=true:=decide_eq_true ⟨h1,h2⟩
   rw [hc]
   clear hc
   have d1:decide (x≥l)=true:=decide_eq_true h1
   have d2:decide (x<=m)=true:=decide_eq_true h2
   go_enter Tryz.func182,Tryz.ntmps182
   go_wp2
   go_ret
   exact ⟨rfl,rfl⟩
  ·have hc:decide (l<=x/\x<=m)=false:=decide_eq_false (fun h=>h2 h.2)
   rw [hc]
   clear hc
   have d1:decide (x≥l)=true:=decide_eq_true h1
   have d2:decide (x<=m)=false:=decide_eq_false h2
   go_enter Tryz.func182,Tryz.ntmps182
   go_wp2
   go_ret
   exact ⟨rfl,rfl⟩
 ·have hc:decide (l<=x/\x<=m)=false:=decide_eq_false (fun h=>h1 h.1)
  rw [hc]
  clear hc
  have d1:decide (x≥l)=false:=decide_eq_false h1
  go_enter Tryz.func182,Tryz.ntmps182
  go_wp2
  go_ret
  exact ⟨rfl,rfl⟩
theorem within_yes (x l m:Int) (h:l<=x/\x<=m) (w:World) :
  Calls Tryz.prog 182 #[.int .i64 x,.int .i64 l,.int .i64 m] w fun e w'=>e=.returned (.bool true)/\w=w':=by
 have:=within_any x l m w
 rwa [decide_eq_true h] at this
theorem within_not (x l m:Int) (h:¬(l<=x/\x<=m)) (w:World) :
  Calls Tryz.prog 182 #[.int .i64 x,.int .i64 l,.int .i64 m] w fun e w'=>e=.returned (.bool false)/\w=w':=by
 have:=within_any x l m w
 rwa [decide_eq_false h] at this
theorem mostMark_any (s:Sup) (w:World) :
  Calls Tryz.prog 183 #[s.val] w fun e w'=>e=.returned (.int .i64 s.most)/\Below w.heap.size w w':=by
 obtain ⟨x0,x1,x2,x3,x4,x5,x6,x7⟩:=s
 by_cases h:x5=-1
 ·subst h
  go_enter Tryz.func183,Tryz.ntmps183
  simp only [Sup.val,Sup.cells]
  go_wp2
  go_ret
  exact ⟨rfl,(Below.refl _ _).alloc (Nat.le_refl _) _⟩
 ·have hc:Hid (Sup.most ⟨x0,x1,x2,x3,x4,x5,x6,x7⟩=x3):=hid (if_neg h)
  have hd:(x5 == -1)=false:=beq_eq_false_iff_ne.2 h
  go_enter Tryz.func183,Tryz.ntmps183
  simp only [Sup.val,Sup.cells]
  go_wp2
  go_ret
  exact ⟨by rw [hc.out];rfl,(Below.refl _ _).alloc (Nat.le_refl _) _⟩
theorem row8 {W:World} {g:Nat} {s:Sup} {e:TypeId} (h:W.heap[g]?=some (.cells s.cells e)) :
  W.cell? ⟨g,0,none⟩=some (.int .i64 s.gen)/\W.cell? ⟨g,1,none⟩=some (.int .i64 s.mem)/\W.cell? ⟨g,2,none⟩=some (.int .i64 s.disk)/\W.cell? ⟨g,3,none⟩=some (.int .i64 s.str) /\
  W.cell? ⟨g,4,none⟩=some (.int .i64 s.logs)/\W.cell? ⟨g,5,none⟩=some (.int .i64 s.spare)/\W.cell? ⟨g,6,none⟩=some (.int .i64 s.mark)/\W.cell? ⟨g,7,none⟩=some (.int .i64 s.cur) :=
 ⟨cell_of_row _ _ 0 _ _ _ h,cell_of_row _ _ 1 _ _ _ h,cell_of_row _ _ 2 _ _ _ h,cell_of_row _ _ 3 _ _ _ h,cell_of_row _ _ 4 _ _ _ h,cell_of_row _ _ 5 _ _ _ h,cell_of_row _ _ 6 _ _ _ h,cell_of_row _ _ 7 _ _ _ h⟩
def zcB:Array Value:=(List.replicate 128 (Value.int .u8 0)).toArray
theorem zcB_size:zcB.size=128:=by simp [zcB]
theorem zcB_ne:zcB≠#[]:=fun h=>by have:=congrArg Array.size h;rw [zcB_size] at this;exact absurd this (by decide)
theorem zero_block:∀w,(zeroValue 263).run Tryz.prog w=.ok (.agg zcB) w:=fun w=>by kernel_rfl
theorem zero_bytes:∀w,(zeroValue 147).run Tryz.prog w=.ok (.agg zcB) w:=fun w=>by kernel_rfl
set_option maxRecDepth 100000 in
set_option maxHeartbeats 4000000 in
theorem right_yes (s:Sup) (w:World) (h1:(1<=s.gen/\s.gen<=4611686018427387904)) (h2:(3<=s.mem/\s.mem<=16)) (h3:(0<=s.disk/\s.disk<=s.mem)) (h4:(1<=s.str/\s.str<=1024)) (h5:(1<=s.logs/\s.logs<=8)) (h6:(-1<=s.spare/\s.spare<=s.mem-1)) (h7:(0<=s.mark/\s.mark<=s.most)) (h8:(0<=s.cur/\s.cur<=s.str-1)) :
  Calls Tryz.prog 130 #[s.val] w fun e w'=>e=.returned (.bool true)/\Below w.heap.size w w':=by
 have hm:=hid (fun w=>mostMark_any s w)
 have Q:=hid within_yes
 have w1:IntKind.i64.wrap (s.mem-1)=s.mem-1:=by rw [IntKind.wrap_i64];omega
 have w2:IntKind.i64.wrap (s.str-1)=s.str-1:=by rw [IntKind.wrap_i64];omega
 have hblk:=heap_alloc_last w (.cells s.cells 123)
 obtain ⟨c0,c1,c2,c3,c4,c5,c6,c7⟩:=row8 hblk
 clear hblk
 obtain ⟨x0,x1,x2,x3,x4,x5,x6,x7⟩:=s
 simp only [Sup.val,Sup.cells] at *
 go_enter Tryz.func130,Tryz.ntmps130
 have hbW:Below w.heap.size w (w.alloc (.cells #[.int .i64 x0,.int .i64 x1,.int .i64 x2,.int .i64 x3,.int .i64 x4,.int .i64 x5,.int .i64 x6,.int .i64 x7] 123)):=(Below.refl _ _).alloc (Nat.le_refl _) _
 have hgW:w.heap.size<(w.alloc (.cells #[.int .i64 x0,.int .i64 x1,.int .i64 x2,.int .i64 x3,.int .i64 x4,.int .i64 x5,.int .i64 x6,.int .i64 x7] 123)).heap.size:=by simp
 generalize Sup.most ⟨x0,x1,x2,x3,x4,x5,x6,x7⟩=mm at *
 go_wp2_with fail
 generalize w.alloc (.cells #[.int .i64 x0,.int .i64 x1,.int .i64 x2,.int .i64 x3,.int .i64 x4,.int .i64 x5,.int .i64 x6,.int .i64 x7] 123)=W at *
 generalize hgs:w.heap.size=g at *
 have Hgs:=hid hgs
 clear hgs
 have HM:=hid (fun (W':World) (h:W'.cell? ⟨g,0,none⟩=some (.int .i64 x0)/\W'.cell? ⟨g,1,none⟩=some (.int .i64 x1)/\W'.cell? ⟨g,2,none⟩=some (.int .i64 x2)/\W'.cell? ⟨g,3,none⟩=some (.int .i64 x3)/\W'.cell? ⟨g,4,none⟩=some (.int .i64 x4)/\W'.cell? ⟨g,5,none⟩=some (.int .i64 x5)/\W'.cell? ⟨g,6,none⟩=some (.int .i64 x6)/\W'.cell? ⟨g,7,none⟩=some (.int .i64 x7)/\g<W'.heap.size/\Below g w W')=>(show Calls Tryz.prog 183 #[.agg #[.int .i64 x0,.int .i64 x1,.int .i64 x2,.int .i64 x3,.int .i64 x4,.int .i64 x5,.int .i64 x6,.int .i64 x7]] W' fun e W''=>e=.returned (.int .i64 mm)/\W''.cell? ⟨g,0,none⟩=some (.int .i64 x0)/\W''.cell? ⟨g,1,none⟩=some (.int .i64 x1)/\W''.cell? ⟨g,2,none⟩=some (.int .i64 x2)/\W''.cell? ⟨g,3,none⟩=some (.int .i64 x3)/\W''.cell? ⟨g,4,none⟩=some (.int .i64 x4)/\W''.cell? ⟨g,5,none⟩=some (.int .i64 x5)/\W''.cell? ⟨g,6,none⟩=some (.int .i64 x6)/\W''.cell? ⟨g,7,none⟩=some (.int .i64 x7)/\g<W''.heap.size/\Below g w W'' by
  refine (hm.out W').mono fun e W'' ⟨he,hb⟩=>⟨he,?_⟩
  obtain ⟨k0,k1,k2,k3,k4,k5,k6,k7,kg,kb⟩:=h
  have hk:∀i,W''.cell? ⟨g,i,none⟩=W'.cell? ⟨g,i,none⟩:=fun i=>hb.cell (p:=⟨g,i,none⟩) kg
  exact ⟨(hk _).trans k0,(hk _).trans k1,(hk _).trans k2,(hk _).trans k3,(hk _).trans k4,(hk _).trans k5,(hk _).trans k6,(hk _).trans k7,Nat.lt_of_lt_of_le kg hb.size,kb.trans (hb.mono (Nat.le_of_lt kg))⟩))
 clear hm
 have hbD:=hbW.drew
 go_region_held3 (fun W'=>W'.cell? ⟨g,0,none⟩=some (.int .i64 x0)/\W'.cell? ⟨g,1,none⟩=some (.int .i64 x1)/\W'.cell? ⟨g,2,none⟩=some (.int .i64 x2)/\W'.cell? ⟨g,3,none⟩=some (.int .i64 x3)/\W'.cell? ⟨g,4,none⟩=some (.int .i64 x4)/\W'.cell? ⟨g,5,none⟩=some (.int .i64 x5)/\W'.cell? ⟨g,6,none⟩=some (.int .i64 x6)/\W'.cell? ⟨g,7,none⟩=some (.int .i64 x7)/\g<W'.heap.size/\Below g w W') (go_keep)
  (first
   | (go_at_call 182;refine (Q.out _ _ _ (by assumption) _).mono ?_;rintro e w' ⟨rfl,rfl⟩)
   | (go_at_call 183;refine (HM.out _ (by simp [*])).mono ?_;rintro e W2 ⟨rfl,k0,k1,k2,k3,k4,k5,k6,k7,kg,kb⟩))
 all_goals
  go_wp2
  go_ret
  exact ⟨rfl,by rw [Hgs.out];assumption⟩
set_option maxRecDepth 100000 in
set_option maxHeartbeats 4000000 in
theorem right_no8 (s:Sup) (w:World) (h1:(1<=s.gen/\s.gen<=4611686018427387904)) (h2:(3<=s.mem/\s.mem<=16)) (h3:(0<=s.disk/\s.disk<=s.mem)) (h4:(1<=s.str/\s.str<=1024)) (h5:(1<=s.logs/\s.logs<=8)) (h6:(-1<=s.spare/\s.spare<=s.mem-1)) (h7:(0<=s.mark/\s.mark<=s.most)) (h8:¬(0<=s.cur/\s.cur<=s.str-1)) :
  Calls Tryz.prog 130 #[s.val] w fun e w'=>e=.returned (.bool false)/\Below w.heap.size w w':=by
 have hm:=hid (fun w=>mostMark_any s w)
 have Q:=hid within_yes
 have QF:=hid within_not
 have w1:IntKind.i64.wrap (s.mem-1)=s.mem-1:=by rw [IntKind.wrap_i64];omega
 have w2:IntKind.i64.wrap (s.str-1)=s.str-1:=by rw [IntKind.wrap_i64];omega
 have hblk:=heap_alloc_last w (.cells s.cells 123)
 obtain ⟨c0,c1,c2,c3,c4,c5,c6,c7⟩:=row8 hblk
 clear hblk
 obtain ⟨x0,x1,x2,x3,x4,x5,x6,x7⟩:=s
 simp only [Sup.val,Sup.cells] at *
 go_enter Tryz.func130,Tryz.ntmps130
 have hbW:Below w.heap.size w (w.alloc (.cells #[.int .i64 x0,.int .i64 x1,.int .i64 x2,.int .i64 x3,.int .i64 x4,.int .i64 x5,.int .i64 x6,.int .i64 x7] 123)):=(Below.refl _ _).alloc (Nat.le_refl _) _
 have hgW:w.heap.size<(w.alloc (.cells #[.int .i64 x0,.int .i64 x1,.int .i64 x2,.int .i64 x3,.int .i64 x4,.int .i64 x5,.int .i64 x6,.int .i64 x7] 123)).heap.size:=by simp
 generalize Sup.most ⟨x0,x1,x2,x3,x4,x5,x6,x7⟩=mm at *
 go_wp2_with fail
 generalize w.alloc (.cells #[.int .i64 x0,.int .i64 x1,.int .i64 x2,.int .i64 x3,.int .i64 x4,.int .i64 x5,.int .i64 x6,.int .i64 x7] 123)=W at *
 generalize hgs:w.heap.size=g at *
 have Hgs:=hid hgs
 clear hgs
 have HM:=hid (fun (W':World) (h:W'.cell? ⟨g,0,none⟩=some (.int .i64 x0)/\W'.cell? ⟨g,1,none⟩=some (.int .i64 x1)/\W'.cell? ⟨g,2,none⟩=some (.int .i64 x2)/\W'.cell? ⟨g,3,none⟩=some (.int .i64 x3)/\W'.cell? ⟨g,4,none⟩=some (.int .i64 x4)/\W'.cell? ⟨g,5,none⟩=some (.int .i64 x5)/\W'.cell? ⟨g,6,none⟩=some (.int .i64 x6)/\W'.cell? ⟨g,7,none⟩=some (.int .i64 x7)/\g<W'.heap.size/\Below g w W')=>(show Calls Tryz.prog 183 #[.agg #[.int .i64 x0,.int .i64 x1,.int .i64 x2,.int .i64 x3,.int .i64 x4,.int .i64 x5,.int .i64 x6,.int .i64 x7]] W' fun e W''=>e=.returned (.int .i64 mm)/\W''.cell? ⟨g,0,none⟩=some (.int .i64 x0)/\W''.cell? ⟨g,1,none⟩=some (.int .i64 x1)/\W''.cell? ⟨g,2,none⟩=some (.int .i64 x2)/\W''.cell? ⟨g,3,none⟩=some (.int .i64 x3)/\W''.cell? ⟨g,4,none⟩=some (.int .i64 x4)/\W''.cell? ⟨g,5,none⟩=some (.int .i64 x5)/\W''.cell? ⟨g,6,none⟩=some (.int .i64 x6)/\W''.cell? ⟨g,7,none⟩=some (.int .i64 x7)/\g<W''.heap.size/\Below g w W'' by
  refine (hm.out W').mono fun e W'' ⟨he,hb⟩=>⟨he,?_⟩
  obtain ⟨k0,k1,k2,k3,k4,k5,k6,k7,kg,kb⟩:=h
  have hk:∀i,W''.cell? ⟨g,i,none⟩=W'.cell? ⟨g,i,none⟩:=fun i=>hb.cell (p:=⟨g,i,none⟩) kg
  exact ⟨(hk _).trans k0,(hk _).trans k1,(hk _).trans k2,(hk _).trans k3,(hk _).trans k4,(hk _).trans k5,(hk _).trans k6,(hk _).trans k7,Nat.lt_of_lt_of_le kg hb.size,kb.trans (hb.mono (Nat.le_of_lt kg))⟩))
 clear hm
 have hbD:=hbW.drew
 go_region_held3 (fun W'=>W'.cell? ⟨g,0,none⟩=some (.int .i64 x0)/\W'.cell? ⟨g,1,none⟩=some (.int .i64 x1)/\W'.cell? ⟨g,2,none⟩=some (.int .i64 x2)/\W'.cell? ⟨g,3,none⟩=some (.int .i64 x3)/\W'.cell? ⟨g,4,none⟩=some (.int .i64 x4)/\W'.cell? ⟨g,5,none⟩=some (.int .i64 x5)/\W'.cell? ⟨g,6,none⟩=some (.int .i64 x6)/\W'.cell? ⟨g,7,none⟩=some (.int .i64 x7)/\g<W'.heap.size/\Below g w W') (go_keep)
  (first
   | (go_at_call 182;refine (Q.out _ _ _ (by assumption) _).mono ?_;rintro e w' ⟨rfl,rfl⟩)
   | (go_at_call 182;refine (QF.out _ _ _ (by assumption) _).mono ?_;rintro e w' ⟨rfl,rfl⟩)
   | (go_at_call 183;refine (HM.out _ (by simp [*])).mono ?_;rintro e W2 ⟨rfl,k0,k1,k2,k3,k4,k5,k6,k7,kg,kb⟩))
 all_goals
  go_wp2
  go_ret
  exact ⟨rfl,by rw [Hgs.out];assumption⟩
end Go.Proofs.YtcnjpmcelihknaaGreatDoor.S
