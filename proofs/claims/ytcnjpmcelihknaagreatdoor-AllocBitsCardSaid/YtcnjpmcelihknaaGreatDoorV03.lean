/-
  What the statement's proof rests on, part 3.
  Conditions: each theorem's own.
-/
import Derived.Test.YtcnjpmcelihknaaGreatDoorV02
import Derived.Handy
import Derived.Deep.WholeRow
open Go.Lib (hid)
namespace Go.Proofs.YtcnjpmcelihknaaGreatDoor.L
open Go.RowKit
def spot (n b:Nat):Value:=.agg #[.int .i64 ((b / (n-1):Nat):Int),.int .i64 ((memAt n (par n (b / (n-1))) (b%(n-1)):Nat):Int),.int .i64 ((b%(n-1):Nat):Int)]
theorem quo_int (n b:Nat) (h:3<=n):(b:Int) / ((n:Int)-1)=((b / (n-1):Nat):Int):=by
 have e:(n:Int)-1=((n-1:Nat):Int):=by omega
 rw [e];simp
theorem rem_int (n b:Nat) (h:3<=n):(b:Int)%((n:Int)-1)=((b%(n-1):Nat):Int):=by
 have e:(n:Int)-1=((n-1:Nat):Int):=by omega
 rw [e];simp
theorem spot_cells (w:World) (k:Nat) (x y z:Value) :
  (((((w.alloc (.cells #[.int .i64 0,.int .i64 0,.int .i64 0] 193)).drewN k).setCell ⟨w.heap.size,0,none⟩ x).setCell ⟨w.heap.size,1,none⟩ y).setCell ⟨w.heap.size,2,none⟩ z).cell? ⟨w.heap.size,0,none⟩=some x /\
  (((((w.alloc (.cells #[.int .i64 0,.int .i64 0,.int .i64 0] 193)).drewN k).setCell ⟨w.heap.size,0,none⟩ x).setCell ⟨w.heap.size,1,none⟩ y).setCell ⟨w.heap.size,2,none⟩ z).cell? ⟨w.heap.size,1,none⟩=some y /\
  (((((w.alloc (.cells #[.int .i64 0,.int .i64 0,.int .i64 0] 193)).drewN k).setCell ⟨w.heap.size,0,none⟩ x).setCell ⟨w.heap.size,1,none⟩ y).setCell ⟨w.heap.size,2,none⟩ z).cell? ⟨w.heap.size,2,none⟩=some z:=by
 have h:((w.alloc (.cells #[.int .i64 0,.int .i64 0,.int .i64 0] 193)).drewN k).heap[w.heap.size]?=some (.cells #[.int .i64 0,.int .i64 0,.int .i64 0] 193):=heap_alloc_last w (.cells #[.int .i64 0,.int .i64 0,.int .i64 0] 193)
 have h2:=heap_setCell_same _ w.heap.size 0 _ _ x h
 have h3:=heap_setCell_same _ w.heap.size 1 _ _ y h2
 have h4:=heap_setCell_same _ w.heap.size 2 _ _ z h3
 exact ⟨cell_of_row _ _ 0 _ _ _ h4,cell_of_row _ _ 1 _ _ _ h4,cell_of_row _ _ 2 _ _ _ h4⟩
theorem below_drewN {B:Nat} {w w':World} (h:Below B w w') (k:Nat):Below B w (w'.drewN k):=h.trans ⟨rfl,rfl,rfl,Nat.le_refl _,fun _ _=>rfl⟩
theorem spot_below {B:Nat} {w0:World} (w:World) (k:Nat) (x y z:Value) (h:Below B w0 w) (hB:B<=w.heap.size) :
  Below B w0 (((((w.alloc (.cells #[.int .i64 0,.int .i64 0,.int .i64 0] 193)).drewN k).setCell ⟨w.heap.size,0,none⟩ x).setCell ⟨w.heap.size,1,none⟩ y).setCell ⟨w.heap.size,2,none⟩ z) :=
 (((below_drewN (h.alloc hB _) k).setCell hB _).setCell hB _).setCell hB _
set_option maxHeartbeats 400000 in
theorem map_ok (n b:Nat) (w:World) (h3:3<=n) (h16:n<=16) (hb:b<=9223372036854775807) :
  Calls Tryz.prog 143 #[.int .i64 n,.int .i64 b] w fun e w'=>e=.returned (.tuple #[spot n b,.int .i64 0])/\Below w.heap.size w w':=by
 have hqb:b / (n-1)<=b:=Nat.div_le_self _ _
 have hrb:b%(n-1)<n-1:=Nat.mod_lt _ (by omega)
 have hq:=quo_int n b h3
 have hr:=rem_int n b h3
 have hsp:Hid (spot n b=.agg #[.int .i64 ((b / (n-1):Nat):Int),.int .i64 ((memAt n (par n (b / (n-1))) (b%(n-1)):Nat):Int),.int .i64 ((b%(n-1):Nat):Int)]):=hid rfl
 rw [hsp.out]
 clear hsp
 generalize b / (n-1)=q at *
 generalize b%(n-1)=r at *
 have hp:=hid (parity_ok n q · h3 h16 (by omega))
 have hpn:=par_lt n q (by omega)
 generalize par n q=p at *
 have hm:((p:Int)+1+(r:Int))%(n:Int)=((memAt n p r:Nat):Int):=by unfold memAt;simp
 have hml:=memAt_lt n p r (by omega)
 generalize memAt n p r=m at *
 go_enter Tryz.func143,Tryz.ntmps143
 go_wp2
 go_quiet (fail)
 go_wp2_with (go_at_call 144;refine (hp.out _).mono ?_;rintro e w' ⟨rfl,rfl⟩)
 obtain ⟨k0,k1,k2⟩:=spot_cells w nq (.int .i64 q) (.int .i64 m) (.int .i64 r)
 go_returns
 exact ⟨rfl,spot_below _ _ _ _ _ (Below.refl _ _) (Nat.le_refl _)⟩
theorem cap_ok (n s:Nat) (w:World) (h3:3<=n) (h16:n<=16) (h1:1<=s) (h2:s<=1024) :
  Calls Tryz.prog 194 #[.int .i64 n,.int .i64 s] w fun e w'=>e=.returned (.tuple #[.int .i64 ((s*(n-1):Nat):Int),.int .i64 0])/\w=w':=by
 have hmul:(s:Int)*((n:Int)-1)=((s*(n-1):Nat):Int):=by
  have e:(n:Int)-1=((n-1:Nat):Int):=by omega
  rw [e];simp
 have hmb:s*(n-1)<=1024*15:=Nat.mul_le_mul h2 (by omega)
 generalize s*(n-1)=z at *
 have hd:decide ((s:Int)<=1024)=true:=by simp;omega
 go_enter Tryz.func194,Tryz.ntmps194
 go_wp2
 go_ret2
 exact ⟨rfl,rfl⟩
end Go.Proofs.YtcnjpmcelihknaaGreatDoor.L
