/-
  What the statement's proof rests on, part 28.
  Conditions: each theorem's own.
-/
import Derived.Test.YtcnjpmcelihknaaGreatDoorV19
import Derived.Test.YtcnjpmcelihknaaGreatDoorV26
open Go.Lib (hid)
open Go.Proofs.YtcnjpmcelihknaaGreatDoor.S renaming Sup → SuP
namespace Go.Proofs.YtcnjpmcelihknaaGreatDoor.U
open Go.RowKit Go.Maps
def dvG (a:Nat->Nat) (g:Nat->Option Addr) (i c:Nat):Value:=if c=0 then .pointer (some ⟨a i,0,none⟩) else .pointer (g i)
structure VolIs (w:World) (v p t n mo mu:Nat) (s:SuP) (base:Int) (a:Nat->Nat) (g:Nat->Option Addr):Prop where
 root:w.heap[v]?=some (.cells #[.pointer (some ⟨p,0,none⟩),.int .i64 s.gen,.int .i64 s.mem,.int .i64 s.disk,.int .i64 s.str,.int .i64 s.logs,.int .i64 s.spare,.int .i64 s.mark,.int .i64 s.cur,.int .i64 base,.slice (some ⟨t,0,none⟩) n n,.map (some mo),.map (some mu)] 134 (0,0))
 row:w.ownsRow 0 130 2 (.slice (some ⟨t,0,none⟩) n n) n (Sh.rowOf (dvG a g) n 2)
def sup0:SuP:=⟨0,0,0,0,0,0,0,0⟩
section
variable {w w':World} {v p t n mo mu:Nat} {s:SuP} {base:Int} {a:Nat->Nat} {g:Nat->Option Addr}
theorem VolIs.vlt (h:VolIs w v p t n mo mu s base a g):v<w.heap.size:=lt_of_block h.root
theorem VolIs.tlt (h:VolIs w v p t n mo mu s base a g):t<w.heap.size:=(h.row.lt t rfl).2
theorem VolIs.kept (h:VolIs w v p t n mo mu s base a g) (hv:w'.heap[v]?=w.heap[v]?) (ht:w'.heap[t]?=w.heap[t]?):VolIs w' v p t n mo mu s base a g :=
 ⟨hv.trans h.root,Sh.same_row h.row fun x hx=>by injection hx with hx;subst hx;exact ht⟩
theorem VolIs.c10 (h:VolIs w v p t n mo mu s base a g):w.cell? ⟨v,10,none⟩=some (.slice (some ⟨t,0,none⟩) n n):=cell_of_row _ _ 10 _ _ _ h.root
theorem VolIs.dev (h:VolIs w v p t n mo mu s base a g) {j:Nat} (hj:j<n):w.cell? ⟨t,j*2,none⟩=some (.pointer (some ⟨a j,0,none⟩)):=by
 have e:=Sh.cell_at h.row (Sh.rowOf_at (c:=0) _ hj (by decide))
 rw [Nat.add_zero] at e
 exact e
theorem VolIs.log (h:VolIs w v p t n mo mu s base a g) {j:Nat} (hj:j<n):w.cell? ⟨t,j*2+1,none⟩=some (.pointer (g j)):=Sh.cell_at h.row (Sh.rowOf_at (c:=1) _ hj (by decide))
end
structure Vo (B:Nat) (W w:World) (v p t n mo mu:Nat) (s:SuP) (base:Int) (a:Nat->Nat) (o:Nat->Int) (g:Nat->Option Addr) (S:Sh.Sf) (F:Nat->Prop):Prop where
 ds:Devs B W w p n a o S F
 vol:VolIs w v p t n mo mu s base a g
 apart:∀b,AllB F a n b->b≠v/\b≠t/\b≠mo/\b≠mu
 low:B<=v/\B<=t/\B<=mo/\B<=mu
 lt:mo<w.heap.size/\mu<w.heap.size
def VGoes (B:Nat) (W w w':World) (v p t n mo mu:Nat) (s:SuP) (base:Int) (a:Nat->Nat) (o:Nat->Int) (g:Nat->Option Addr) (S:Sh.Sf) (F:Nat->Prop):Prop :=
 ∃F',Vo B W w' v p t n mo mu s base a o g S F'/\Sh.Moves (AllB F a n) w (AllB F' a n) w'
section
variable {B:Nat} {W w w' w'':World} {v p t n mo mu:Nat} {s:SuP} {base:Int} {a:Nat->Nat} {o o':Nat->Int} {g:Nat->Option Addr} {S S':Sh.Sf} {F F':Nat->Prop}
theorem Vo.goes (h:Vo B W w v p t n mo mu s base a o g S F) (hG:DsGoes B W w w' p n a o' S' F):VGoes B W w w' v p t n mo mu s base a o' g S' F:=by
 obtain ⟨F',D,m⟩:=hG
 have hv:=h.vol.vlt
 have ht:=h.vol.tlt
 obtain ⟨l1,l2⟩:=h.lt
 have hk:∀b,b<w.heap.size->(∀x,AllB F a n x->x≠b)->w'.heap[b]?=w.heap[b]?:=fun b hb hx=>m.1.block b hb fun e=>hx b e rfl
 refine ⟨F',⟨D,h.vol.kept (hk v hv fun x hx=>(h.apart x hx).1) (hk t ht fun x hx=>(h.apart x hx).2.1),fun b hb=>?_,h.low,⟨Nat.lt_of_lt_of_le l1 m.1.size,Nat.lt_of_lt_of_le l2 m.1.size⟩⟩,m⟩
 rcases m.2 b hb with e | e
 ·exact h.apart b e
 ·refine ⟨?_,?_,?_,?_⟩<;>omega
theorem Vo.grown (h:Vo B W w v p t n mo mu s base a o g S F) (hb:Below w.heap.size w w'):Vo B W w' v p t n mo mu s base a o g S F :=
 ⟨h.ds.grown hb,h.vol.kept (hb.block _ h.vol.vlt) (hb.block _ h.vol.tlt),h.apart,h.low,⟨Nat.lt_of_lt_of_le h.lt.1 hb.size,Nat.lt_of_lt_of_le h.lt.2 hb.size⟩⟩
theorem VGoes.here (h:Vo B W w v p t n mo mu s base a o g S F) (hb:Below w.heap.size w w'):VGoes B W w w' v p t n mo mu s base a o g S F :=
 ⟨F,h.grown hb,⟨hb.os,hb.tape,hb.output,hb.size,fun k hk _=>hb.block k hk⟩,fun _ hb=>.inl hb⟩
theorem VGoes.trans (m:Sh.Moves (AllB F a n) w (AllB F' a n) w') (k:VGoes B W w' w'' v p t n mo mu s base a o' g S' F'):VGoes B W w w'' v p t n mo mu s base a o' g S' F:=by
 obtain ⟨F2,V2,m2⟩:=k
 exact ⟨F2,V2,m.trans m2⟩
theorem over_vo (h:Sh.At B W w p S F) {a:Nat->Nat} (hO:OverRel w w' p n v t mo mu n a):Vo B W w' v p t n mo mu sup0 0 a (fun _=>-1) (fun _=>none) S F:=by
 obtain ⟨o1,o2,o3,o4⟩:=hO.ord
 have hs:=h.size
 have hv:=lt_of_block hO.root
 have hlt:∀b,F b->b<w.heap.size:=fun b hb=>h.shelf.ltF hb
 refine ⟨⟨h.grown hO.bel,hO.dev,fun i hi e=>?_,hO.inj,fun i hi=>?_⟩,⟨hO.root,?_⟩,fun b hb=>?_,⟨by omega,by omega,by omega,by omega⟩,⟨by omega,by omega⟩⟩
 ·have:=hlt _ e;have:=hO.low i hi;omega
 ·have:=hO.low i hi;omega
 ·have e:Sh.rowOf (dv0 a n) n 2=Sh.rowOf (dvG a (fun _=>none)) n 2:=Sh.rowOf_congr (by decide) fun i c hi _=>by
   unfold dv0 dvG
   by_cases h0:c=0<;>simp [h0,hi]
  rw [<- e]
  exact hO.row
 ·rcases hb with e | ⟨i,hi,rfl⟩
  ·have:=hlt _ e;omega
  ·have:=hO.low i hi;omega
end
/-! ### butDead,flushDisks -/
def bd (y:Int):Int:=if y=4 then 0 else y
theorem butDead_any (y:Int) (w:World):Calls Tryz.prog 136 #[.int .i64 y] w fun e w'=>e=.returned (.int .i64 (bd y))/\w=w':=by
 by_cases h:y=4
 ·subst h
  go_enter Tryz.func136,Tryz.ntmps136
  go_wp2
  go_ret
  exact ⟨rfl,rfl⟩
 ·have hq:(y == 4)=false:=by rw [beq_eq_false_iff_ne];exact h
  have hx:=hid (show bd y=y from if_neg h)
  clear h
  go_enter Tryz.func136,Tryz.ntmps136
  go_wp2
  go_ret
  exact ⟨by rw [hx.out];rfl,rfl⟩
def fdS (S:Sh.Sf):Nat->Sh.Sf × Int
 | 0=>(S,0)
 | d+1=>if (fdS S d).2=0 then (Fl (fdS S d).1 d,bd (Sh.why (fdS S d).1 d)) else fdS S d
theorem fdS_stop (S:Sh.Sf) {k n:Nat} (h:(fdS S k).2≠0) (hk:k<=n):fdS S n=fdS S k:=by
 induction n with
 | zero =>
      have:k=0:=by omega
      rw [this]
 | succ n ih =>
  by_cases e:k=n+1
  ·rw [e]
  ·have e2:=ih (by omega)
   show (if (fdS S n).2=0 then _ else fdS S n)=_
   rw [if_neg (by rw [e2];exact h),e2]
theorem fdS_succ (S:Sh.Sf) {d:Nat} (h:(fdS S d).2=0):fdS S (d+1)=(Fl (fdS S d).1 d,bd (Sh.why (fdS S d).1 d)):=if_pos h
theorem fdS_length (S:Sh.Sf) (k:Nat):(fdS S k).1.disks.length=S.disks.length:=by
 induction k with
 | zero=>rfl
 | succ k ih =>
  unfold fdS
  split
  ·exact (fl_length _ _).trans ih
  ·exact ih
theorem fdS_waits {S:Sh.Sf} {m:Nat} (hL:∀k∈S.disks,k.waits.length<m) (k:Nat):∀x∈(fdS S k).1.disks,x.waits.length<m:=by
 induction k with
 | zero=>exact hL
 | succ k ih =>
  unfold fdS
  split
  ·exact fl_waits ih
  ·exact ih
section
variable {B:Nat} {W w:World} {v p t n mo mu:Nat} {s:SuP} {base:Int} {a:Nat->Nat} {o:Nat->Int} {g:Nat->Option Addr} {S:Sh.Sf} {F:Nat->Prop}
def FdRel (B:Nat) (W w wr:World) (v p t n mo mu:Nat) (s:SuP) (base:Int) (a:Nat->Nat) (g:Nat->Option Addr) (S:Sh.Sf) (F:Nat->Prop) (j:Nat):Prop :=
 (fdS S j).2=0/\∃o',VGoes B W w wr v p t n mo mu s base a o' g (fdS S j).1 F
theorem flushDisks_any (h:Vo B W w v p t n mo mu s base a o g S F) (hn:S.disks.length=n) (hL:∀k∈S.disks,k.waits.length<1099511627776) :
  Calls Tryz.prog 135 #[.pointer (some ⟨v,0,none⟩)] w fun e w'=>e=.returned (.int .i64 (fdS S n).2)/\∃o',VGoes B W w w' v p t n mo mu s base a o' g (fdS S n).1 F:=by
 have c10:=h.vol.c10
 have h17:n<=17:=by
  obtain ⟨D,gs,q⟩:=h.ds.on.shelf
  have:=q.most
  omega
 have hrel0:Hid (FdRel B W w w v p t n mo mu s base a g S F 0):=hid ⟨rfl,o,VGoes.here h (Below.refl _ w)⟩
 have HN:=hid hn
 have HL:=hid hL
 have hbd:=hid butDead_any
 clear h hn hL
 go_enter Tryz.func135,Tryz.ntmps135
 go_wp2
 clear c10
 go_loopw [11] (fun i wr=>∃j:Nat,j<=n/\i=.int .i64 j/\Hid (FdRel B W w wr v p t n mo mu s base a g S F j)) (fun i _=>n-(intOf i).toNat)
 case atStart=>exact ⟨0,Nat.zero_le _,rfl,hrel0⟩
 case round =>
  obtain ⟨j,hj,rfl,hrel⟩:=hrel
  obtain ⟨hz,o1,F1,V1,M1⟩:=hrel.out
  by_cases hlt:j<n
  ·have d0:=V1.vol.dev hlt
   have d1:=V1.vol.log hlt
   have hb:Below wr.heap.size wr (wr.alloc (.cells #[.pointer (some ⟨a j,0,none⟩),.pointer (g j)] 130)):=(Below.refl _ _).alloc (Nat.le_refl _) _
   have V2:=V1.grown hb
   have HFL:=hid (flush_dev (V2.ds.dv hlt) (by rw [fdS_length,HN.out];exact hlt) (fdS_waits HL.out j))
   have hs2:=fdS_succ S hz
   have M2:Sh.Moves (AllB F a n) w (AllB F1 a n) (wr.alloc (.cells #[.pointer (some ⟨a j,0,none⟩),.pointer (g j)] 130)):=M1.trans ⟨⟨hb.os,hb.tape,hb.output,hb.size,fun k hk _=>hb.block k hk⟩,fun _ hb=>.inl hb⟩
   generalize hy:Sh.why (fdS S j).1 j=y at *
   have hbe:Hid (∀w,Calls Tryz.prog 136 #[.int .i64 y] w fun e w'=>e=.returned (.int .i64 (bd y))/\w=w'):=hid (hbd.out y)
   generalize hzz:bd y=z at *
   have KEEP:=hid (And.intro hs2 (And.intro V2 M2))
   clear hy hzz hb V1 M1 V2 hz hrel hs2 M2
   go_wp2_with fail
   refine HFL.out.mono ?_
   rintro e w2 ⟨rfl,hG⟩
   obtain ⟨hs2,V2,M2⟩:=KEEP.out
   have HG:=hid (VGoes.trans M2 (V2.goes (V2.ds.goes hlt hG)))
   have HS:=hid hs2
   clear hG hs2 V2 M2 KEEP d0 d1 HFL
   by_cases h0:z=0
   ·subst h0
    go_wp2_with (go_at_call 136;refine (hbe.out _).mono ?_;rintro e w' ⟨rfl,rfl⟩)
    go_roundw
    case rel=>exact ⟨j+1,by omega,by go_num,hid ⟨by rw [HS.out],_,by rw [HS.out];exact HG.out⟩⟩
    case measure=>simp [intOf];omega
   ·have hq:(z == 0)=false:=by rw [beq_eq_false_iff_ne];exact h0
    have hst:=hid (fdS_stop S (k:=j+1) (n:=n) (by rw [HS.out];exact h0) hlt)
    clear h0
    go_wp2_with (go_at_call 136;refine (hbe.out _).mono ?_;rintro e w' ⟨rfl,rfl⟩)
    go_ret
    exact ⟨by rw [hst.out,HS.out];rfl,_,by rw [hst.out,HS.out];exact HG.out⟩
  ·obtain rfl:j=n:=by omega
   have HZ:=hid hz
   have HR:=hid hrel.out.2
   clear hz hrel V1 M1
   go_wp2
   go_ret
   exact ⟨by rw [HZ.out];rfl,HR.out⟩
end
end Go.Proofs.YtcnjpmcelihknaaGreatDoor.U
