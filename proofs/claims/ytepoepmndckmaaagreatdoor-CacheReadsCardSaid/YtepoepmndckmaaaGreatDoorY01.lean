/-
  What the statement's proof rests on, part 1.
  Conditions: each theorem's own.
-/
import Derived.Test.YtepoepmndckmaaaGreatDoorRows
import Derived.WalkKit
import Derived.WalkSpells
import Derived.WalkLawsBesides
import Derived.Below
import Derived.Laws.OwnMore
import Derived.Deep.AppendLies
import Derived.Deep.Draws
import Derived.Deep.QuietTactic
import Derived.BigQuiet
import Derived.Lib.Hide
import Derived.IntWalk
open Go.Lib (hid)
namespace Go.Proofs.YtepoepmndckmaaaGreatDoor.L
open Go.RowKit
theorem block_of_add (a:Addr) (n:Nat):(a.add n).block=a.block:=by unfold Addr.add;split<;>rfl
def Reads (w:World) (B:Nat) (A:Option Addr) (n:Nat) (xs:List Value):Prop :=
 xs.length=n/\(0<n->∃ad,A=some ad/\ad.block<B/\∀j u,xs[j]?=some u->w.cell? (ad.add j)=some u)
section
variable {w w':World} {B B' n:Nat} {A:Option Addr} {xs:List Value}
theorem Reads.none_:Reads w B A 0 []:=⟨rfl,fun h=>absurd h (by omega)⟩
theorem Reads.at_ {k:Nat} (h:Reads w B A n xs) (hk:k<n):∃ad u,A=some ad/\ad.block<B/\xs[k]?=some u/\w.cell? (ad.add k)=some u:=by
 obtain ⟨ad,e,hb,hc⟩:=h.2 (by omega)
 have hl:k<xs.length:=by have:=h.1;omega
 exact ⟨ad,xs[k],e,hb,List.getElem?_eq_getElem hl,hc k _ (List.getElem?_eq_getElem hl)⟩
theorem Reads.keep (h:Reads w B A n xs) (hk:∀p:Addr,p.block<B->w'.cell? p=w.cell? p):Reads w' B A n xs :=
 ⟨h.1,fun hn=>by
  obtain ⟨ad,e,hb,hc⟩:=h.2 hn
  exact ⟨ad,e,hb,fun j u hu=>(hk _ (by rw [block_of_add];exact hb)).trans (hc j u hu)⟩⟩
theorem Reads.more (h:Reads w B A n xs) (hB:B<=B'):Reads w B' A n xs :=
 ⟨h.1,fun hn=>by
  obtain ⟨ad,e,hb,hc⟩:=h.2 hn
  exact ⟨ad,e,by omega,hc⟩⟩
theorem Reads.below (h:Reads w B A n xs) (hb:Below B w w'):Reads w' B A n xs:=h.keep fun _ hp=>hb.cell hp
theorem Reads.drewN (h:Reads w B A n xs) (k:Nat):Reads (w.drewN k) B A n xs:=h
theorem Reads.of_own {base:Nat} {e:TypeId} {c:Nat} (h:w.ownsRow base e 1 (.slice A n c) n xs):Reads w w.heap.size A n xs:=by
 refine ⟨by simpa using h.1,fun hn=>?_⟩
 obtain ⟨g,cap,hv,_,hlt⟩:=h.form hn
 have hA:A=some ⟨g,0,none⟩:=by injection hv
 subst hA
 exact ⟨_,rfl,hlt,h.cells (g:=g) rfl⟩
end
def ints (l:List Nat):List Value:=l.map fun (x:Nat)=>Value.int .i64 (x:Int)
theorem ints_length (l:List Nat):(ints l).length=l.length:=by simp [ints]
theorem ints_get (l:List Nat) (k:Nat) (h:k<l.length):(ints l)[k]?=some (.int .i64 ((l.getD k 0:Nat):Int)):=by
 simp [ints,List.getElem?_eq_getElem h]
theorem Reads.len {w:World} {B n:Nat} {A:Option Addr} {l:List Nat} (h:Reads w B A n (ints l)):l.length=n:=by rw [<- h.1,ints_length]
theorem below_on {w w1 w2:World} (h:Below w.heap.size w w1) (k:Below w1.heap.size w1 w2):Below w.heap.size w w2:=h.trans (k.mono h.size)
theorem own_shape {w:World} {base:Nat} {e:TypeId} {v:Value} {n:Nat} {xs:List Value} (h:w.ownsRow base e 1 v n xs) :
  ∃A c,v=.slice A n c/\Reads w w.heap.size A n xs/\n<=c/\c<=maxLen:=by
 have hl:xs.length=n:=by simpa using h.1
 have h0:=h
 rcases h.2 with ⟨rfl,rfl⟩ | ⟨g,cap,cur,rfl,_,_,hnc,hcm,_⟩
 ·exact ⟨none,0,rfl,⟨hl,fun hn=>absurd hn (by omega)⟩,Nat.le_refl _,by unfold maxLen;omega⟩
 ·exact ⟨_,cap,rfl,Reads.of_own h0,hnc,hcm⟩
def Tab (w:World):Prop:=∀i,i<16->w.cell? ⟨3,i,none⟩=some (.int .i64 ((i:Int)-1))
theorem Tab.keep {w w':World} (h:Tab w) (hk:∀p:Addr,p.block<3+1->w'.cell? p=w.cell? p):Tab w' :=
 fun i hi=>(hk _ (by simp)).trans (h i hi)
theorem Tab.size {w:World} (h:Tab w):3+1<=w.heap.size:=by
 have h1:=h 0 (by decide)
 simp only [World.cell?] at h1
 rcases Nat.lt_or_ge 3 w.heap.size with hlt | hge
 ·omega
 ·have e:w.heap[3]?=none:=Array.getElem?_eq_none hge
  simp [e] at h1
theorem Tab.below {w w':World} {B:Nat} (h:Tab w) (hB:3+1<=B) (hb:Below B w w'):Tab w':=h.keep fun p hp=>hb.cell (by omega)
def par (n s:Nat):Nat:=n-1-s%n
theorem par_lt (n s:Nat) (h:0<n):par n s<n:=by unfold par;omega
theorem par_int (n s:Nat) (h:0<n):(n:Int)-1-(s:Int)%(n:Int)=((par n s:Nat):Int):=by
 have h1:s%n<n:=Nat.mod_lt _ h
 have h2:(s:Int)%(n:Int)=((s%n:Nat):Int):=by simp
 rw [h2];unfold par;omega
theorem mod_turn (n x:Nat) (h:x<n+n):x%n=if x<n then x else x-n:=by
 split
 ·exact Nat.mod_eq_of_lt (by assumption)
 ·rw [Nat.mod_eq_sub_mod (by omega),Nat.mod_eq_of_lt (by omega)]
def memAt (n p k:Nat):Nat:=(p+1+k)%n
def memL (n p:Nat):List Nat:=(List.range n).map (memAt n p)
theorem memL_length (n p:Nat):(memL n p).length=n:=by simp [memL]
theorem memL_get (n p k:Nat) (h:k<n):(memL n p).getD k 0=memAt n p k:=by simp [memL,List.getD,h]
theorem memAt_turn (n p k:Nat) (hp:p<n) (hk:k<n):memAt n p k=if p+1+k<n then p+1+k else p+1+k-n:=mod_turn _ _ (by omega)
theorem memAt_lt (n p k:Nat) (h:0<n):memAt n p k<n:=Nat.mod_lt _ h
theorem memAt_last (n p:Nat) (hp:p<n):memAt n p (n-1)=p:=by rw [memAt_turn n p _ hp (by omega),if_neg (by omega)];omega
def placeOf (n p m:Nat):Nat:=(m+n-p-1)%n
theorem placeOf_turn (n p m:Nat) (hp:p<n) (hm:m<n):placeOf n p m=if m+n-p-1<n then m+n-p-1 else m+n-p-1-n:=mod_turn _ _ (by omega)
theorem mem_place (n p m k:Nat) (hp:p<n) (hm:m<n) (hk:k<n):memAt n p k=m↔k=placeOf n p m:=by
 rw [memAt_turn n p k hp hk,placeOf_turn n p m hp hm]
 split<;>split<;>omega
theorem placeOf_lt (n p m:Nat) (h:0<n):placeOf n p m<n:=Nat.mod_lt _ h
def memTo (n p j:Nat):List Nat:=(List.range n).map fun i=>if (i=n-1/\1<=j)\/i+2<=j then memAt n p i else 0
theorem memTo_length (n p j:Nat):(memTo n p j).length=n:=by simp [memTo]
theorem memTo_zero (n p:Nat):ints (memTo n p 0)=List.replicate n (.int .i64 0):=by
 apply List.ext_getElem?
 intro i
 by_cases h:i<n
 ·simp [ints,memTo,h]
 ·simp [ints,memTo,h]
theorem memTo_all (n p:Nat):memTo n p n=memL n p:=by
 apply List.ext_getElem?
 intro i
 by_cases h:i<n
 ·have:(i=n-1/\1<=n)\/i+2<=n:=by omega
  simp [memL,memTo,h,this]
 ·simp [memL,memTo,h]
theorem memTo_set (n p j at_:Nat) (hn:3<=n) (hp:p<n) (hj:j<n) (ha:at_=if j=0 then n-1 else j-1) :
  (ints (memTo n p j)).set at_ (.int .i64 (((p+j)%n:Nat):Int))=ints (memTo n p (j+1)):=by
 have hv:(p+j)%n=memAt n p at_:=by
  rw [memAt_turn n p _ hp (by split at ha<;>omega),mod_turn n (p+j) (by omega)]
  by_cases h0:j=0
  ·rw [if_pos h0] at ha;split<;>split<;>omega
  ·rw [if_neg h0] at ha;split<;>split<;>omega
 rw [hv]
 apply List.ext_getElem?
 intro i
 rw [List.getElem?_set]
 by_cases h:i<n
 ·have hr:(List.range n)[i]?=some i:=List.getElem?_range h
  by_cases hk:at_=i
  ·subst hk
   have hc:(at_=n-1/\1<=j+1)\/at_+2<=j+1:=by split at ha<;>omega
   rw [if_pos rfl,if_pos (by rw [ints_length,memTo_length];exact h)]
   simp only [ints,memTo,List.getElem?_map,hr,Option.map_some,if_pos hc]
  ·have hc:((i=n-1/\1<=j)\/i+2<=j)↔((i=n-1/\1<=j+1)\/i+2<=j+1):=by split at ha<;>omega
   rw [if_neg hk]
   simp only [ints,memTo,List.getElem?_map,hr,Option.map_some,hc]
 ·have hr:(List.range n)[i]?=none:=List.getElem?_eq_none (by simpa using h)
  by_cases hk:at_=i
  ·rw [if_pos hk,if_neg (by rw [ints_length,memTo_length];omega)]
   simp only [ints,memTo,List.getElem?_map,hr,Option.map_none]
  ·rw [if_neg hk]
   simp only [ints,memTo,List.getElem?_map,hr,Option.map_none]
theorem parity_ok (n s:Nat) (w:World) (h3:3<=n) (h16:n<=16) (hs:s<=9223372036854775807) :
  Calls Tryz.prog 73 #[.int .i64 n,.int .i64 s] w fun e w'=>e=.returned (.tuple #[.int .i64 ((par n s:Nat):Int),.int .i64 0])/\w=w':=by
 have hp:=hid (par_int n s (by omega))
 have h1:=Int.emod_nonneg (s:Int) (show (n:Int)≠0 by omega)
 have h2:=Int.emod_lt_of_pos (s:Int) (show (0:Int)<(n:Int) by omega)
 go_enter Tryz.func73,Tryz.ntmps73
 go_wp2
 go_ret2
 exact ⟨by rw [<- hp.out];rfl,rfl⟩
def Own (l:List Nat) (w:World) (e:Ending) (w':World):Prop :=
 ∃v,e=.returned (.tuple #[v,.int .i64 0])/\w'.ownsRow w.heap.size 3 1 v l.length (ints l)/\Below w.heap.size w w'
theorem info_int:(Tryz.prog.info? 3).map (fun i=>(i.zero,i.size,i.bytes))=some (some (.int .i64 0),1,8):=by kernel_rfl
set_option maxHeartbeats 400000 in
theorem members_ok (n s:Nat) (w:World) (h3:3<=n) (h16:n<=16) (hs:s<=9223372036854775807) (hT:Tab w) :
  Calls Tryz.prog 174 #[.int .i64 n,.int .i64 s] w (Own (memL n (par n s)) w):=by
 obtain ⟨i0,hi,hz0,hz1,hz2⟩:=info_parts info_int
 have hp:=hid (parity_ok n s · h3 h16 hs)
 have hpn:=par_lt n s (by omega)
 have hsz:=hT.size
 generalize par n s=p at *
 have HT:=hid hT
 clear hT
 go_enter Tryz.func174,Tryz.ntmps174
 go_wp2_with (first
  | (go_at_call 73;refine (hp.out _).mono ?_;rintro e w' ⟨rfl,rfl⟩)
  | (at_make;refine wpList_make_full _ rfl _ _ 54 rfl w.heap.size 3 i0 (.int .i64 0) 1 Tryz.underlying54 hi hz0 hz1 _ _ _ _ n rfl rfl rfl rfl ?_ ?_ (Nat.le_refl _) ?_))
 ·rw [hz2];omega
 ·unfold maxLen;omega
 intro w0 hown0 hgrow0
 have hbelow0:Below w.heap.size w w0:=(Below.refl _ _).grown hgrow0 (Nat.le_refl _) (fun k h=>by cases h)
 clear hgrow0
 go_wp2
 clear hi hz0 hz1 hz2
 rw [toList_madeCells_one,<- memTo_zero n p] at hown0
 generalize hgs:w.heap.size=g at *
 have Hgs:=hid hgs
 clear hgs
 go_loopw [23] (fun i wr=>∃k:Nat,k<=n/\i=.int .i64 k/\wr.ownsRow g 3 1 (.slice (some ⟨g,0,none⟩) n n) n (ints (memTo n p k))/\Below g w wr) (fun i _=>n-(intOf i).toNat)
 case atStart=>exact ⟨0,Nat.zero_le _,rfl,hown0,hbelow0⟩
 case round =>
  obtain ⟨k,hk,rfl,hown,hbel⟩:=hrel
  by_cases hlt:k<n
  ·have hc0:=(HT.out.below hsz hbel) k (by omega)
   have hmod:Hid (((p:Int)+(k:Int))%(n:Int)=(((p+k)%n:Nat):Int)):=hid (by simp)
   by_cases hk0:k=0
   ·subst hk0
    have hset:=memTo_set n p 0 (n-1) h3 hpn (by omega) rfl
    have hst:=(hown.stored (n-1) (.int .i64 (((p+0)%n:Nat):Int))).1
    rw [hset] at hst
    have hbel2:=hbel.setCell (p:=⟨g,n-1,none⟩) (Nat.le_refl _) (.int .i64 (((p+0)%n:Nat):Int))
    have hfz:=hown.frozenAt (n-1)
    have hc:=hown.cellAt (n-1) (by omega)
    rw [ints_get _ _ (by rw [memTo_length];omega)] at hc
    generalize (memTo n p 0).getD (n-1) 0=old at hc
    have Hst:=hid hst
    clear hst hown hown0 hbel hbelow0 hset
    go_wp2
    go_roundw
    case rel=>exact ⟨1,by omega,by go_num,Hst.out,hbel2⟩
    case measure=>simp [intOf];omega
   ·obtain ⟨j,rfl⟩:∃j,k=j+1:=⟨k-1,by omega⟩
    have hc0b:wr.cell? ⟨3,j+1,none⟩=some (.int .i64 (j:Int)):=by rw [hc0];congr 2;omega
    clear hc0 hk0
    have hset:=memTo_set n p (j+1) j h3 hpn hlt (by rw [if_neg (by omega)];rfl)
    have hst:=(hown.stored j (.int .i64 (((p+(j+1))%n:Nat):Int))).1
    rw [hset] at hst
    have hbel2:=hbel.setCell (p:=⟨g,j,none⟩) (Nat.le_refl _) (.int .i64 (((p+(j+1))%n:Nat):Int))
    have hfz:=hown.frozenAt j
    have hc:=hown.cellAt j (by omega)
    rw [ints_get _ _ (by rw [memTo_length];omega)] at hc
    generalize (memTo n p (j+1)).getD j 0=old at hc
    have Hst:=hid hst
    clear hst hown hown0 hbel hbelow0 hset
    go_wp2
    go_roundw
    case rel=>exact ⟨j+2,by omega,by go_num,Hst.out,hbel2⟩
    case measure=>simp [intOf];omega
  ·obtain rfl:k=n:=by omega
   go_wp2
   go_ret2
   refine ⟨_,rfl,?_,by rw [Hgs.out];exact hbel⟩
   rw [memL_length,Hgs.out,<- memTo_all]
   exact hown
end Go.Proofs.YtepoepmndckmaaaGreatDoor.L
