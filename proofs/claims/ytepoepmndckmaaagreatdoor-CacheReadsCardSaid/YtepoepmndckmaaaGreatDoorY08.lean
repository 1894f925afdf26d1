/-
  What the statement's proof rests on, part 8.
  Conditions: each theorem's own.
-/
import Derived.Test.YtepoepmndckmaaaGreatDoorY06
import Derived.Laws.Bits128
open Go.Lib (hid)
namespace Go.Proofs.YtepoepmndckmaaaGreatDoor.S
open Go.RowKit
theorem i64_and1 (n:Int):bits .and .i64 n 1=n%2:=by
 have h1:(BitVec.ofInt 64 1).toNat=2 ^ 1-1:=by decide
 have key:(BitVec.ofInt 64 n &&& BitVec.ofInt 64 1).toNat=(n%((2 ^ 64:Nat):Int)).toNat%2 ^ 1:=by
  rw [BitVec.toNat_and,BitVec.toNat_ofInt,h1,Nat.and_two_pow_sub_one_eq_mod]
 show IntKind.i64.wrap ((BitVec.ofInt 64 n &&& BitVec.ofInt 64 1).toNat:Nat)=n%2
 rw [key,IntKind.wrap_i64]
 omega
theorem slot_any (n:Int) (w:World) (_:-9223372036854775808<=n) (_:n<=9223372036854775807) :
  Calls Tryz.prog 90 #[.int .i64 n] w fun e w'=>e=.returned (.int .i64 (n%2))/\w=w':=by
 have h:=i64_and1 n
 go_enter Tryz.func90,Tryz.ntmps90
 go_wp2
 go_ret
 exact ⟨rfl,rfl⟩
def SupsAre (w:World) (L:Nat) (A:Option Addr) (n:Nat) (ss:List Sup):Prop :=
 ss.length=n/\(0<n->∃b off,A=some ⟨b,off,none⟩/\b<L/\∀i s,ss[i]?=some s->∀j v,s.cells[j]?=some v->w.cell? ⟨b,off+i*8+j,none⟩=some v)
def sup0:Sup:=⟨0,0,0,0,0,0,0,0⟩
def supAt (ss:List Sup) (i:Nat):Sup:=ss.getD i sup0
section
variable {w w':World} {L n:Nat} {A:Option Addr} {ss:List Sup}
theorem SupsAre.keep (h:SupsAre w L A n ss) (hk:∀p:Addr,p.block<L->w'.cell? p=w.cell? p):SupsAre w' L A n ss :=
 ⟨h.1,fun hn=>by
  obtain ⟨b,off,e,hb,hc⟩:=h.2 hn
  exact ⟨b,off,e,hb,fun i s hs j v hv=>(hk ⟨b,_,none⟩ hb).trans (hc i s hs j v hv)⟩⟩
theorem SupsAre.below (h:SupsAre w L A n ss) (hb:Below L w w'):SupsAre w' L A n ss:=h.keep fun _ hp=>hb.cell hp
theorem SupsAre.at_ (h:SupsAre w L A n ss) {i:Nat} (hi:i<n):∃b off,A=some ⟨b,off,none⟩/\b<L/\∀j v,(supAt ss i).cells[j]?=some v->w.cell? ⟨b,off+i*8+j,none⟩=some v:=by
 obtain ⟨b,off,e,hb,hc⟩:=h.2 (by omega)
 have hl:i<ss.length:=by have:=h.1;omega
 have hs:ss[i]?=some (supAt ss i):=by simp [supAt,List.getD,List.getElem?_eq_getElem hl]
 exact ⟨b,off,e,hb,hc i _ hs⟩
end
def nwst (ss:List Sup):Nat->Nat
 | 0=>0
 | k+1=>if (supAt ss k).gen>(supAt ss (nwst ss k)).gen then k else nwst ss k
theorem nwst_lt (ss:List Sup) (k n:Nat) (h:0<n) (hk:k<=n):nwst ss k<n:=by
 induction k with
 | zero=>exact h
 | succ k ih =>
  unfold nwst
  split
  ·omega
  ·exact ih (by omega)
set_option maxHeartbeats 1000000 in
theorem newest_any (A:Option Addr) (n c L:Nat) (ss:List Sup) (w:World) (hr:SupsAre w L A n ss) (hL:L<=w.heap.size) (hn:n<=140737488351232) :
  Calls Tryz.prog 58 #[.slice A n c] w fun e w'=>e=.returned (.tuple #[.int .i64 (nwst ss n),.bool (decide (0<n))])/\Below w.heap.size w w':=by
 have HR:=hid hr
 have hstep:Hid (∀k,nwst ss (k+1)=if (supAt ss k).gen>(supAt ss (nwst ss k)).gen then k else nwst ss k):=hid fun k=>rfl
 have hlt0:Hid (∀k,k<n->nwst ss k<n):=hid fun k h=>nwst_lt ss k n (by omega) (by omega)
 clear hr
 go_enter Tryz.func58,Tryz.ntmps58
 go_wp2
 have hrefl:=Below.refl w.heap.size w
 go_loopw [4,9] (fun s4 s9 wr=>∃k p:Nat,k<=n/\s9=.int .i64 k/\s4=.int .i64 p/\Hid (p=nwst ss k)/\Below w.heap.size w wr) (fun _ s9 _=>n-(intOf s9).toNat)
 case atStart=>exact ⟨0,0,Nat.zero_le _,rfl,rfl,hid rfl,hrefl⟩
 case round =>
  obtain ⟨k,p,hk,rfl,rfl,Hp,hbel⟩:=hrel
  by_cases hlt:k<n
  ·have hpn:p<n:=by rw [Hp.out];exact hlt0.out k hlt
   have hR:=HR.out.below (hbel.mono hL)
   obtain ⟨b,off,rfl,hb1,hc1⟩:=hR.at_ hlt
   obtain ⟨b2,off2,e2,_,hc2⟩:=hR.at_ hpn
   injection e2 with e2
   injection e2 with e3 e4
   subst e3 e4
   have hs:=hstep.out k
   rw [<- Hp.out] at hs
   have a0:wr.cell? ⟨b,off+k*8,none⟩=some (.int .i64 (supAt ss k).gen):=hc1 0 _ rfl
   have a1:wr.cell? ⟨b,off+k*8+1,none⟩=some (.int .i64 (supAt ss k).mem):=hc1 1 _ rfl
   have a2:wr.cell? ⟨b,off+k*8+2,none⟩=some (.int .i64 (supAt ss k).disk):=hc1 2 _ rfl
   have a3:wr.cell? ⟨b,off+k*8+3,none⟩=some (.int .i64 (supAt ss k).str):=hc1 3 _ rfl
   have a4:wr.cell? ⟨b,off+k*8+4,none⟩=some (.int .i64 (supAt ss k).logs):=hc1 4 _ rfl
   have a5:wr.cell? ⟨b,off+k*8+5,none⟩=some (.int .i64 (supAt ss k).spare):=hc1 5 _ rfl
   have a6:wr.cell? ⟨b,off+k*8+6,none⟩=some (.int .i64 (supAt ss k).mark):=hc1 6 _ rfl
   have a7:wr.cell? ⟨b,off+k*8+7,none⟩=some (.int .i64 (supAt ss k).cur):=hc1 7 _ rfl
   have b0:wr.cell? ⟨b,off+p*8,none⟩=some (.int .i64 (supAt ss p).gen):=hc2 0 _ rfl
   clear hc1 hc2 hR
   have hb2:b<wr.heap.size:=by have:=hbel.size;omega
   have hsz:w.heap.size<=wr.heap.size:=hbel.size
   generalize supAt ss k=S at *
   generalize supAt ss p=R at *
   obtain ⟨x0,x1,x2,x3,x4,x5,x6,x7⟩:=S
   obtain ⟨y0,y1,y2,y3,y4,y5,y6,y7⟩:=R
   simp only at *
   have hnew:=row8 (s:=⟨x0,x1,x2,x3,x4,x5,x6,x7⟩) (heap_alloc_last wr (.cells (Sup.cells ⟨x0,x1,x2,x3,x4,x5,x6,x7⟩) 81))
   simp only [Sup.cells] at hnew
   obtain ⟨n0,n1,n2,n3,n4,n5,n6,n7⟩:=hnew
   have b1:(wr.alloc (.cells #[.int .i64 x0,.int .i64 x1,.int .i64 x2,.int .i64 x3,.int .i64 x4,.int .i64 x5,.int .i64 x6,.int .i64 x7] 81)).cell? ⟨b,off+p*8,none⟩=some (.int .i64 y0):=(World.cell?_alloc_lt wr _ _ hb2).trans b0
   have hbel2:=hbel.alloc hsz (.cells #[.int .i64 x0,.int .i64 x1,.int .i64 x2,.int .i64 x3,.int .i64 x4,.int .i64 x5,.int .i64 x6,.int .i64 x7] 81)
   have ip:(p:Int)<(n:Int):=by omega
   clear n1 n2 n3 n4 n5 n6 n7
   by_cases hgt:x0>y0
   ·rw [if_pos hgt] at hs
    have hd:decide (x0>y0)=true:=decide_eq_true hgt
    have Hs:=hid hs
    clear hs hgt
    go_wp2
    go_quiet (fail)
    go_wp2
    go_roundw
    case rel=>exact ⟨k+1,k,by omega,by go_num,rfl,hid Hs.out.symm,hbel2.trans ⟨rfl,rfl,rfl,Nat.le_refl _,fun _ _=>rfl⟩⟩
    case measure=>simp [intOf];omega
   ·rw [if_neg hgt] at hs
    have hd:decide (x0>y0)=false:=decide_eq_false hgt
    have Hs:=hid hs
    clear hs hgt
    go_wp2
    go_quiet (fail)
    go_wp2
    go_roundw
    case rel=>exact ⟨k+1,p,by omega,by go_num,rfl,hid Hs.out.symm,hbel2.trans ⟨rfl,rfl,rfl,Nat.le_refl _,fun _ _=>rfl⟩⟩
    case measure=>simp [intOf];omega
  ·obtain rfl:k=n:=by omega
   go_wp2
   go_ret2
   exact ⟨by rw [<- Hp.out];rfl,hbel⟩
end Go.Proofs.YtepoepmndckmaaaGreatDoor.S
