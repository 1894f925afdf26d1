/-
  What the statement's proof rests on, part 2.
  Conditions: each theorem's own.
-/
import Derived.Test.YtcnjpmcelihknaaGreatDoorRows
import Derived.WalkKit
import Derived.WalkSpells
import Derived.WalkLawsBesides
import Derived.Below
import Derived.Laws.OwnMore
import Derived.Deep.AppendLies
import Derived.Deep.Draws
import Derived.Deep.QuietTactic
import Derived.BigQuiet
import Derived.Lib.Hide
import Derived.IntWalk
open Go.Lib (hid)
namespace Go.Proofs.YtcnjpmcelihknaaGreatDoor.L
open Go.RowKit
theorem block_of_add (a:Addr) (n:Nat):(a.add n).block=a.block:=by unfold Addr.add;split<;>rfl
def Reads (w:World) (B:Nat) (A:Option Addr) (n:Nat) (xs:List Value):Prop :=
 xs.length=n/\(0<n->∃ad,A=some ad/\ad.block<B/\∀j u,xs[j]?=some u->w.cell? (ad.add j)=some u)
section
variable {w w':World} {B B' n:Nat} {A:Option Addr} {xs:List Value}
theorem Reads.none_:Reads w B A 0 []:=⟨rfl,fun h=>absurd h (by omega)⟩
theorem Reads.at_ {k:Nat} (h:Reads w B A n xs) (hk:k<n):∃ad u,A=some ad/\ad.block<B/\xs[k]?=some u/\w.cell? (ad.add k)=some u:=by
 obtain ⟨ad,e,hb,hc⟩:=h.2 (by omega)
 have hl:k<xs.length:=by have:=h.1;omega
 exact ⟨ad,xs[k],e,hb,List.getElem?_eq_getElem hl,hc k _ (List.getElem?_eq_getElem hl)⟩
theorem Reads.keep (h:Reads w B A n xs) (hk:∀p:Addr,p.block<B->w'.cell? p=w.cell? p):Reads w' B A n xs :=
 ⟨h.1,fun hn=>by
  obtain ⟨ad,e,hb,hc⟩:=h.2 hn
  exact ⟨ad,e,hb,fun j u hu=>(hk _ (by rw [block_of_add];exact hb)).trans (hc j u hu)⟩⟩
theorem Reads.more (h:Reads w B A n xs) (hB:B<=B'):Reads w B' A n xs :=
 ⟨h.1,fun hn=>by
  obtain ⟨ad,e,hb,hc⟩:=h.2 hn
  exact ⟨ad,e,by omega,hc⟩⟩
theorem Reads.below (h:Reads w B A n xs) (hb:Below B w w'):Reads w' B A n xs:=h.keep fun _ hp=>hb.cell hp
theorem Reads.alloc (h:Reads w B A n xs) (hB:B<=w.heap.size) (o:Obj):Reads (w.alloc o) B A n xs:=h.keep fun p hp=>World.cell?_alloc_lt w o p (by omega)
theorem Reads.of_own {base:Nat} {e:TypeId} {c:Nat} (h:w.ownsRow base e 1 (.slice A n c) n xs):Reads w w.heap.size A n xs:=by
 refine ⟨by simpa using h.1,fun hn=>?_⟩
 obtain ⟨g,cap,hv,_,hlt⟩:=h.form hn
 have hA:A=some ⟨g,0,none⟩:=by injection hv
 subst hA
 exact ⟨_,rfl,hlt,h.cells (g:=g) rfl⟩
end
def ints (l:List Nat):List Value:=l.map fun (x:Nat)=>Value.int .i64 (x:Int)
theorem ints_length (l:List Nat):(ints l).length=l.length:=by simp [ints]
theorem Reads.len {w:World} {B n:Nat} {A:Option Addr} {l:List Nat} (h:Reads w B A n (ints l)):l.length=n:=by rw [<- h.1,ints_length]
theorem below_on {w w1 w2:World} (h:Below w.heap.size w w1) (k:Below w1.heap.size w1 w2):Below w.heap.size w w2:=h.trans (k.mono h.size)
theorem own_shape {w:World} {base:Nat} {e:TypeId} {v:Value} {n:Nat} {xs:List Value} (h:w.ownsRow base e 1 v n xs) :
  ∃A c,v=.slice A n c/\Reads w w.heap.size A n xs/\n<=c/\c<=maxLen:=by
 have hl:xs.length=n:=by simpa using h.1
 have h0:=h
 rcases h.2 with ⟨rfl,rfl⟩ | ⟨g,cap,cur,rfl,_,_,hnc,hcm,_⟩
 ·exact ⟨none,0,rfl,⟨hl,fun hn=>absurd hn (by omega)⟩,Nat.le_refl _,by unfold maxLen;omega⟩
 ·exact ⟨_,cap,rfl,Reads.of_own h0,hnc,hcm⟩
def par (n s:Nat):Nat:=n-1-s%n
theorem par_lt (n s:Nat) (h:0<n):par n s<n:=by unfold par;omega
theorem par_int (n s:Nat) (h:0<n):(n:Int)-1-(s:Int)%(n:Int)=((par n s:Nat):Int):=by
 have h1:s%n<n:=Nat.mod_lt _ h
 have h2:(s:Int)%(n:Int)=((s%n:Nat):Int):=by simp
 rw [h2];unfold par;omega
theorem mod_turn (n x:Nat) (h:x<n+n):x%n=if x<n then x else x-n:=by
 split
 ·exact Nat.mod_eq_of_lt (by assumption)
 ·rw [Nat.mod_eq_sub_mod (by omega),Nat.mod_eq_of_lt (by omega)]
def memAt (n p k:Nat):Nat:=(p+1+k)%n
theorem memAt_turn (n p k:Nat) (hp:p<n) (hk:k<n):memAt n p k=if p+1+k<n then p+1+k else p+1+k-n:=mod_turn _ _ (by omega)
theorem memAt_lt (n p k:Nat) (h:0<n):memAt n p k<n:=Nat.mod_lt _ h
theorem memAt_last (n p:Nat) (hp:p<n):memAt n p (n-1)=p:=by rw [memAt_turn n p _ hp (by omega),if_neg (by omega)];omega
def placeOf (n p m:Nat):Nat:=(m+n-p-1)%n
theorem placeOf_turn (n p m:Nat) (hp:p<n) (hm:m<n):placeOf n p m=if m+n-p-1<n then m+n-p-1 else m+n-p-1-n:=mod_turn _ _ (by omega)
theorem mem_place (n p m k:Nat) (hp:p<n) (hm:m<n) (hk:k<n):memAt n p k=m↔k=placeOf n p m:=by
 rw [memAt_turn n p k hp hk,placeOf_turn n p m hp hm]
 split<;>split<;>omega
theorem parity_ok (n s:Nat) (w:World) (h3:3<=n) (h16:n<=16) (hs:s<=9223372036854775807) :
  Calls Tryz.prog 144 #[.int .i64 n,.int .i64 s] w fun e w'=>e=.returned (.tuple #[.int .i64 ((par n s:Nat):Int),.int .i64 0])/\w=w':=by
 have hp:=hid (par_int n s (by omega))
 have h1:=Int.emod_nonneg (s:Int) (show (n:Int)≠0 by omega)
 have h2:=Int.emod_lt_of_pos (s:Int) (show (0:Int)<(n:Int) by omega)
 go_enter Tryz.func144,Tryz.ntmps144
 go_wp2
 go_ret2
 exact ⟨by rw [<- hp.out];rfl,rfl⟩
theorem info_int:(Tryz.prog.info? 3).map (fun i=>(i.zero,i.size,i.bytes))=some (some (.int .i64 0),1,8):=by kernel_rfl
end Go.Proofs.YtcnjpmcelihknaaGreatDoor.L
