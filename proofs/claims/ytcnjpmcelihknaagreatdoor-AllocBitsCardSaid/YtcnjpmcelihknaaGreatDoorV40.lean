/-
  What the statement's proof rests on, part 40.
  Conditions: each theorem's own.
-/
import Derived.Test.YtcnjpmcelihknaaGreatDoorV39
import Derived.Test.YtcnjpmcelihknaaGreatDoorCards
import Derived.Test.YtcnjpmcelihknaaGreatDoorTie
import Derived.ProofKit
import Derived.OpenShut
import Derived.ChangeOld
import Derived.ChangeSlices
import Derived.SizedLaws
import Derived.Deep.DeepHandedRow
import Derived.Lib.LaidTab
import Derived.Test.YtcnjpmcelihknaaGreatDoorV33
import Derived.Test.YtcnjpmcelihknaaGreatDoorV20
open Go.Proofs.YtcnjpmcelihknaaGreatDoor.S renaming Sup → SuP
namespace Go.Proofs.YtcnjpmcelihknaaGreatDoor.U
open Go.ChangeShapes Go.WideShapes Go.ChangeAt Go.RowKit
theorem own:ownKnob Tryz.prog.godebug=none:=by kernel_rfl
theorem laidOut:laidOutB Tryz.prog=true:=by kernel_rfl
theorem gLow : Tryz.prog.globalNamed "ashlar/octets.lowRests" = some 0 := by kernel_rfl
theorem gHigh : Tryz.prog.globalNamed "ashlar/octets.highRests" = some 1 := by kernel_rfl
theorem gFld : Tryz.prog.globalNamed "ashlar/ppl.fields" = some 4 := by kernel_rfl
theorem gWid : Tryz.prog.globalNamed "ashlar/super.widths" = some 2 := by kernel_rfl
theorem cells16i:Tryz.prog.cellsOf 301=16:=by kernel_rfl
theorem gWidType:(Tryz.prog.globals[2]?).map (·.type)=some 289:=by kernel_rfl
theorem gLowType:(Tryz.prog.globals[0]?).map (·.type)=some 216:=by kernel_rfl
theorem gHighType:(Tryz.prog.globals[1]?).map (·.type)=some 216:=by kernel_rfl
theorem gFldType:(Tryz.prog.globals[4]?).map (·.type)=some 312:=by kernel_rfl
theorem cells16:Tryz.prog.cellsOf 216=16:=by kernel_rfl
theorem cellsU32:Tryz.prog.cellsOf 23=1:=by kernel_rfl
theorem cellsInt:Tryz.prog.cellsOf 3=1:=by kernel_rfl
theorem cellsU8:Tryz.prog.cellsOf 5=1:=by kernel_rfl
theorem cellsB:Tryz.prog.cellsOf 24=1:=by kernel_rfl
theorem cells8:Tryz.prog.cellsOf 289=8:=by kernel_rfl
theorem cellsFld:Tryz.prog.cellsOf 311=2:=by kernel_rfl
theorem cellsFlds:Tryz.prog.cellsOf 312=6:=by kernel_rfl
theorem bytesU8:Tryz.prog.bytesOf 5=1:=by kernel_rfl
def widZ:List Int:=[8,1,1,1,1,4,4,4]
def plaZ:List Int:=[-1,0,1,2,3,4,5,6,7,8,9,10,11,12,13,14]
section
variable {H:Type} {enc:TypeId × Value->H} {w:World} {base:Nat} {sp:Nat->Bool} {held:Bool}
theorem lit_of {fuel:Nat} {t:TypeId} {k:IntKind} {v:Value} {z:Int} {y:DataW H × List MemPlace} (ht:Tryz.prog.underlying t=some (.int k)) (h:DataW.trod enc Tryz.prog w base sp held fuel t [v]=some y) (hy:y.1=.lit (.int k z)):v=.int k z:=by
 obtain ⟨z',hc,hd,_⟩:=DataW.trod_int ht h
 simp only [List.cons.injEq,and_true] at hc
 subst hc
 rw [hd] at hy
 simp only [DataW.lit.injEq,Lit.int.injEq,true_and] at hy
 rw [hy]
set_option maxRecDepth 20000 in
theorem fld_val {fuel:Nat} {cs:List Value} {y:DataW H × List MemPlace} {x z:Int} (hl:cs.length=2) (h:DataW.trod enc Tryz.prog w base sp held fuel 311 cs=some y) (hy:y.1=.agg [.lit (.int .i64 x),.lit (.int .u64 z)]):cs=[.int .i64 x,.int .u64 z]:=by
 obtain ⟨xs,k,rfl,rfl,_,hxs,hf⟩:=DataW.trod_struct Tryz.underlying311 h
 match cs,hl with
 | [v0,v1],_ =>
  have hs:xs.length=2:=hxs
  have f0:=hf 0 _ rfl
  have f1:=hf 1 _ rfl
  match xs,hs with
  | [z0,z1],_ =>
   simp only [List.map_cons,List.map_nil,DataW.agg.injEq,List.cons.injEq,and_true] at hy
   have e0:=lit_of (v:=v0) Tryz.underlying3 (show DataW.trod enc Tryz.prog w base sp held k 3 [v0]=some z0 from f0) hy.1
   have e1:=lit_of (v:=v1) Tryz.underlying167 (show DataW.trod enc Tryz.prog w base sp held k 167 [v1]=some z1 from f1) hy.2
   rw [e0,e1]
set_option maxRecDepth 20000 in
theorem flds_val {fuel:Nat} {cs:List Value} {p:List MemPlace} (h:DataW.trod enc Tryz.prog w base sp held fuel 312 cs=some (Rows.laid_ashlar_ppl_fields,p)) :
  cs=[.int .i64 4,.int .u64 1024,.int .i64 8,.int .u64 15,.int .i64 12,.int .u64 4294967296]:=by
 cases fuel with
 | zero=>simp [DataW.trod] at h
 | succ fuel =>
  simp only [DataW.trod,Tryz.underlying312,cellsFld,cellsFlds] at h
  split at h
  ·rename_i hl
   obtain ⟨xs,hm,hx⟩:=Option.map_eq_some_iff.1 h
   have hxs:xs.map (·.1)=[.agg [.lit (.int .i64 4),.lit (.int .u64 1024)],.agg [.lit (.int .i64 8),.lit (.int .u64 15)],.agg [.lit (.int .i64 12),.lit (.int .u64 4294967296)]]:=by
    have:=congrArg Prod.fst hx
    simpa [Rows.laid_ashlar_ppl_fields] using this
   have hl6:cs.length=6:=by simpa using hl
   have hxl:xs.length=3:=by simpa using Lib.mapM_length hm
   have key:∀i x z,i<3->(xs.map (·.1))[i]?=some (.agg [.lit (.int .i64 x),.lit (.int .u64 z)])->(cs.drop (i*2)).take 2=[.int .i64 x,.int .u64 z]:=by
    intro i x z hi he
    obtain ⟨y,hy,hf⟩:=Lib.mapM_at hm i i (by simp [hi])
    refine fld_val (by simp;omega) hf ?_
    rw [List.getElem?_map,hy] at he
    simpa using he
   have k0:=key 0 4 1024 (by decide) (by rw [hxs];rfl)
   have k1:=key 1 8 15 (by decide) (by rw [hxs];rfl)
   have k2:=key 2 12 4294967296 (by decide) (by rw [hxs];rfl)
   match cs,hl6,k0,k1,k2 with
   | [v0,v1,v2,v3,v4,v5],_,k0,k1,k2 =>
    have k0:[v0,v1]=_:=k0
    have k1:[v2,v3]=_:=k1
    have k2:[v4,v5]=_:=k2
    simp only [List.cons.injEq,and_true] at k0 k1 k2
    rw [k0.1,k0.2,k1.1,k1.2,k2.1,k2.2]
  ·cases h
end
theorem bytes_in {H:Type} {enc:TypeId × Value->H} {W:World} {fuel n c:Nat} {A:Option Addr} {x:DataW H × List MemPlace} (h:DataW.trod enc Tryz.prog W 0 (fun _=>true) true fuel 24 [.slice A n c]=some x) :
  ∃l,Small l/\Reads W W.heap.size A n (bts l)/\n<=c/\c<=maxLen/\((x.1=.nil/\c=0)\/∃es sp,x.1=.slice es sp/\es.length+sp.length=c):=by
 rcases open_ints Tryz.underlying24 Tryz.underlying5 cellsU8 h with ⟨hcs,rfl⟩ | ⟨a,len,cap,zs,hcs,_,hl,hm,hz,rfl,hcell,hwz⟩
 ·simp only [List.cons.injEq,Value.slice.injEq,and_true] at hcs
  obtain ⟨rfl,rfl,rfl⟩:=hcs
  exact ⟨[],fun _ hx=>by simp at hx,Reads.none_,Nat.le_refl _,by unfold maxLen;omega,.inl ⟨rfl,rfl⟩⟩
 ·simp only [List.cons.injEq,Value.slice.injEq,and_true] at hcs
  obtain ⟨rfl,rfl,rfl⟩:=hcs
  simp only [if_true] at hz
  have hb:∀z∈zs,0<=z/\z<256:=fun z hzm=>by
   have:=hwz z hzm
   simp [Lit.wf,IntKind.min,IntKind.max,IntKind.bits,IntKind.signed] at this
   omega
  have hlen:((zs.take n).map Int.toNat).length=n:=by simp;omega
  refine ⟨(zs.take n).map Int.toNat,?_,⟨by rw [bts_length,hlen],fun hn=>⟨a,rfl,?_,?_⟩⟩,hl,hm,.inr ⟨_,_,rfl,by simp [lits];omega⟩⟩
  ·intro y hy
   simp only [List.mem_map] at hy
   obtain ⟨z,hzm,rfl⟩:=hy
   have:=hb z (List.mem_of_mem_take hzm)
   omega
  ·have:=World.block_lt_of_cell? W _ (hcell 0 (by omega))
   rwa [block_of_add] at this
  ·intro j u hu
   have hj:j<n:=by
    rcases Nat.lt_or_ge j n with h | h
    ·exact h
    ·rw [List.getElem?_eq_none (by rw [bts_length,hlen];exact h)] at hu;cases hu
   have hjz:j<zs.length:=by omega
   have h1:=hcell j hjz
   rw [h1]
   rw [bts_get _ _ (by rw [hlen];exact hj)] at hu
   rw [<- hu]
   have h2:=hb zs[j] (List.getElem_mem hjz)
   simp [List.getD,List.getElem?_eq_getElem hjz,hj]
   omega
def withCells (l:List Nat):Obj->Obj
 | .cells _ t frozen=>.cells (l.map fun (x:Nat)=>Value.int .u32 (x:Int)).toArray t frozen
 | o=>o
def withFlds:Obj->Obj
 | .cells _ t frozen=>.cells #[.int .i64 4,.int .u64 1024,.int .i64 8,.int .u64 15,.int .i64 12,.int .u64 4294967296] t frozen
 | o=>o
def withI (l:List Int):Obj->Obj
 | .cells _ t frozen=>.cells (l.map fun (x:Int)=>Value.int .i64 x).toArray t frozen
 | o=>o
noncomputable def laidWorld (os:Os):World :=
 { World.holding Tryz.prog os ⟨#[],#[],[]⟩ with heap:=(((((World.holding Tryz.prog os ⟨#[],#[],[]⟩).heap.modify 0 (withCells Nums.lowT)).modify 1 (withCells Nums.highT)).modify 4 withFlds).modify 2 (withI widZ)).modify 3 (withI plaZ) }
open Go.Maps
def xf (f:Nat->Nat) (tk:Nat->Bool):Nat->Nat
 | 0=>0
 | j+1=>if tk j then xf f tk j ^^^ f j else xf f tk j
def tkAll (_:Nat):Bool:=true
theorem xf_congr {f g:Nat->Nat} {tk tl:Nat->Bool}:∀{j:Nat},(∀m,m<j->tk m=tl m/\(tk m=true->f m=g m))->xf f tk j=xf g tl j
 | 0,_=>rfl
 | j+1,h=>by
  have ih:=xf_congr (j:=j) fun m hm=>h m (by omega)
  obtain ⟨h1,h2⟩:=h j (by omega)
  unfold xf
  rw [ih,<- h1]
  cases ht:tk j
  ·rfl
  ·rw [h2 ht]
theorem xor_swap (a b c:Nat):a ^^^ b ^^^ c=a ^^^ c ^^^ b:=by rw [Nat.xor_assoc,Nat.xor_comm b c,<- Nat.xor_assoc]
theorem xf_split (f:Nat->Nat) (tk:Nat->Bool):∀j,xf f tkAll j=xf f tk j ^^^ xf f (fun m=>!tk m) j
 | 0=>by simp [xf]
 | j+1=>by
  have ih:=xf_split f tk j
  show xf f tkAll j ^^^ f j=(if tk j then xf f tk j ^^^ f j else xf f tk j) ^^^ (if !tk j then xf f (fun m=>!tk m) j ^^^ f j else xf f (fun m=>!tk m) j)
  rw [ih]
  cases tk j
  ·simp only [Bool.not_false,if_true,Bool.false_eq_true,if_false,Nat.xor_assoc]
  ·simp only [Bool.not_true,if_true,Bool.false_eq_true,if_false]
   exact xor_swap _ _ _
theorem xf_one (f:Nat->Nat) (a:Nat):∀j,xf f (fun m=>decide (m=a)) j=if a<j then f a else 0
 | 0=>rfl
 | j+1=>by
  have ih:=xf_one f a j
  show (if decide (j=a) then xf f (fun m=>decide (m=a)) j ^^^ f j else xf f (fun m=>decide (m=a)) j)=_
  rw [ih]
  by_cases e:j=a
  ·subst e
   simp
  ·simp only [e,decide_false,Bool.false_eq_true,if_false]
   by_cases h:a<j
   ·rw [if_pos h,if_pos (by omega)]
   ·rw [if_neg h,if_neg (by omega)]
theorem xf_two (f:Nat->Nat) (a b:Nat) (hab:a≠b):∀j,xf f (tkEither a b) j=(if a<j then f a else 0) ^^^ (if b<j then f b else 0)
 | 0=>by simp [xf]
 | j+1=>by
  have ih:=xf_two f a b hab j
  show (if decide (j=a\/j=b) then xf f (tkEither a b) j ^^^ f j else xf f (tkEither a b) j)=_
  rw [ih]
  by_cases ha:j=a
  ·subst ha
   have hb:¬j=b:=hab
   simp only [true_or,decide_true,if_true]
   rw [if_neg (Nat.lt_irrefl j),if_pos (Nat.lt_succ_self j),Nat.zero_xor,Nat.xor_comm]
   by_cases h:b<j
   ·rw [if_pos h,if_pos (by omega)]
   ·rw [if_neg h,if_neg (by omega)]
  ·by_cases hb:j=b
   ·subst hb
    simp only [or_true,decide_true,if_true]
    rw [if_neg (Nat.lt_irrefl j),if_pos (Nat.lt_succ_self j),Nat.xor_zero]
    by_cases h:a<j
    ·rw [if_pos h,if_pos (by omega)]
    ·rw [if_neg h,if_neg (by omega)]
   ·simp only [ha,hb,or_self,decide_false,Bool.false_eq_true,if_false]
    congr 1
    ·by_cases h:a<j
     ·rw [if_pos h,if_pos (by omega)]
     ·rw [if_neg h,if_neg (by omega)]
    ·by_cases h:b<j
     ·rw [if_pos h,if_pos (by omega)]
     ·rw [if_neg h,if_neg (by omega)]
theorem xor_move {a b c:Nat} (h:a=b ^^^ c):b=a ^^^ c:=by rw [h,Nat.xor_assoc,Nat.xor_self,Nat.xor_zero]
theorem xf_not (f:Nat->Nat) {a j:Nat} (ha:a<j):xf f (tkNot a) j=xf f tkAll j ^^^ f a:=by
 have h:=xor_move (xf_split f (tkNot a) j)
 have e:(fun m=>!tkNot a m)=fun m=>decide (m=a):=by funext m;unfold tkNot;by_cases e:m=a<;>simp [e]
 rw [e,xf_one,if_pos ha] at h
 exact h
theorem xf_neither (f:Nat->Nat) {a b j:Nat} (ha:a<j) (hb:b<j) (hab:a≠b):xf f (tkNeither a b) j=xf f tkAll j ^^^ (f a ^^^ f b):=by
 have h:=xor_move (xf_split f (tkNeither a b) j)
 have e:(fun m=>!tkNeither a b m)=tkEither a b:=by funext m;unfold tkNeither tkEither;by_cases e:m=a<;>by_cases e2:m=b<;>simp [e,e2]
 rw [e,xf_two f a b hab,if_pos ha,if_pos hb] at h
 exact h
/-! ### blocks -/
def SumZ (M:Nat) (f:Nat->Sh.Bs):Prop:=∀i,i<128->xf (fun m=>(f m).getD i 0) tkAll M=0
theorem xor_sec {a b:Sh.Bs} (ha:Sh.Sec a) (hb:Sh.Sec b):Sh.Sec (xorL a b):=by
 refine ⟨by rw [xorL_len];exact ha.1,fun x hx=>?_⟩
 obtain ⟨i,hi,rfl⟩:=List.mem_iff_getElem.1 hx
 rw [xorL_len] at hi
 have e:(xorL a b)[i]'(by rw [xorL_len];exact hi)=(xorL a b).getD i 0:=by simp [List.getD,xorL_len,hi]
 rw [e,xorL_at a b i hi]
 have h1:a.getD i 0<2 ^ 8:=by
  rw [List.getD_eq_getElem?_getD,List.getElem?_eq_getElem hi]
  exact ha.2 _ (List.getElem_mem hi)
 have h2:b.getD i 0<2 ^ 8:=by
  have hi2:i<b.length:=by rw [hb.1,<- ha.1];exact hi
  rw [List.getD_eq_getElem?_getD,List.getElem?_eq_getElem hi2]
  exact hb.2 _ (List.getElem_mem hi2)
 exact Nat.xor_lt_two_pow h1 h2
theorem xl_at {a b:Sh.Bs} (ha:a.length=128) {i:Nat} (hi:i<128):(xorL a b).getD i 0=a.getD i 0 ^^^ b.getD i 0:=xorL_at a b i (by rw [ha];exact hi)
theorem sec_ext {a b:Sh.Bs} (ha:a.length=128) (hb:b.length=128) (h:∀i,i<128->a.getD i 0=b.getD i 0):a=b:=xorL_ext (ha.trans hb.symm) fun i hi=>h i (by rw [<- ha];exact hi)
def seen (S:Sh.Sf) (d k:Nat):Option Sh.Bs:=if Sh.why S d=0 then vo S d k else none
theorem rdY_seen {S:Sh.Sf} (hon:S.off=false) (d k:Nat):(rdY S d k=0/\seen S d k=some (V S d (dataOf k)))\/((rdY S d k=4\/rdY S d k=5)/\seen S d k=none):=by
 unfold rdY seen
 rw [vo_eq]
 by_cases hw:Sh.why S d=0
 ·rw [if_pos hw,if_pos hw]
  cases goodAt S d k
  ·exact .inr ⟨.inr rfl,rfl⟩
  ·exact .inl ⟨rfl,rfl⟩
 ·rw [if_neg hw,if_neg hw]
  refine .inr ⟨.inl ?_,rfl⟩
  unfold Sh.why at *
  rw [hon] at *
  simp only [Bool.false_eq_true,if_false] at *
  by_cases e:(S.disks.getD d default).dead=true
  ·rw [if_pos e]
  ·rw [if_neg e] at hw
   exact absurd rfl hw
section
variable {S T:Sh.Sf} {s:SuP} {M k st:Nat}
theorem seen_same (h:Same S T) (d k:Nat):seen T d k=seen S d k:=by
 unfold seen
 rw [h.why,vo_same h]
theorem seen_some (hon:S.off=false) {d k:Nat} {x:Sh.Bs} (h:seen S d k=some x):rdY S d k=0/\V S d (dataOf k)=x:=by
 rcases rdY_seen hon d k with ⟨h1,h2⟩ | ⟨_,h2⟩
 ·rw [h2] at h
  injection h with h
  exact ⟨h1,h⟩
 ·rw [h2] at h
  cases h
theorem seen_none (hon:S.off=false) {d k:Nat} (h:seen S d k=none):rdY S d k=4\/rdY S d k=5:=by
 rcases rdY_seen hon d k with ⟨_,h2⟩ | ⟨h1,_⟩
 ·rw [h2] at h
  cases h
 ·exact h1
theorem togV_xf {tk:Nat->Bool} (f:Nat->Sh.Bs):∀j,(∀m,m<j->tk m=true->U.V S (numOf s M st m) (dataOf k)=f m)->(togV s M k st tk S j).length=128/\∀i,i<128->(togV s M k st tk S j).getD i 0=xf (fun m=>(f m).getD i 0) tk j
 | 0,_=>⟨Sh.noughts_sec.1,fun i _=>noughts_at i⟩
 | j+1,h=>by
  obtain ⟨h1,h2⟩:=togV_xf f j fun m hm=>h m (by omega)
  unfold togV xf
  cases ht:tk j
  ·exact ⟨h1,fun i hi=>by simpa using h2 i hi⟩
  ·simp only [if_true]
   refine ⟨by rw [xorL_len];exact h1,fun i hi=>?_⟩
   rw [xl_at h1 hi,h2 i hi,h j (by omega) ht]
theorem tog_there (hon:S.off=false) {tk:Nat->Bool} (f:Nat->Sh.Bs) (h:∀m,m<M->tk m=true->seen S (numOf s M st m) k=some (f m)) :
  (tog s M k st tk S M).2.2=0/\(tog s M k st tk S M).2.1.length=128/\∀i,i<128->(tog s M k st tk S M).2.1.getD i 0=xf (fun m=>(f m).getD i 0) tk M:=by
 obtain ⟨h1,h2⟩:=tog_read (s:=s) (M:=M) (k:=k) (st:=st) (S:=S) (tk:=tk) (m:=M) fun j hj ht=>(seen_some hon (h j hj ht)).1
 obtain ⟨h3,h4⟩:=togV_xf (s:=s) (M:=M) (k:=k) (st:=st) (S:=S) (tk:=tk) f M fun j hj ht=>(seen_some hon (h j hj ht)).2
 rw [h2]
 exact ⟨h1,h3,h4⟩
theorem tog_lacks (hon:S.off=false) {tk:Nat->Bool} {a:Nat} (ha:a<M) (ht:tk a=true) (h:seen S (numOf s M st a) k=none):(tog s M k st tk S M).2.2=10:=by
 by_cases h0:(tog s M k st tk S a).2.2=0
 ·exact tog_lack h0 ht (seen_none hon h) ha
 ·have:∀j,(tog s M k st tk S j).2.2=0\/(tog s M k st tk S j).2.2=10:=by
   intro j
   induction j with
   | zero=>exact .inl rfl
   | succ j ih =>
    by_cases h1:(tog s M k st tk S j).2.2=0
    ·cases hj:tk j
     ·rw [tog_skip hj];exact ih
     ·rw [tog_take h1 hj]
      show (if _ then _ else _)=_\/(if _ then _ else _)=_
      have hs:=tog_same (s:=s) (M:=M) (k:=k) (st:=st) (S:=S) (tk:=tk) j
      rcases rdY_seen (S:=(tog s M k st tk S j).1) (hs.off.trans hon) (numOf s M st j) k with ⟨e,_⟩ | ⟨e,_⟩
      ·rw [if_pos e];exact .inl rfl
      ·have hn:rdY (tog s M k st tk S j).1 (numOf s M st j) k≠0:=by rcases e with e | e<;>rw [e]<;>decide
       rw [if_neg hn,if_pos e];exact .inr rfl
    ·rw [tog_stop h1 (Nat.le_succ j)];exact ih
  rw [tog_stop h0 (Nat.le_of_lt ha)]
  exact (this a).elim (fun e=>absurd e h0) id
theorem tog_not (hon:S.off=false) {f:Nat->Sh.Bs} (hz:SumZ M f) (hf:∀m,m<M->Sh.Sec (f m)) {a:Nat} (ha:a<M) (h:∀m,m<M->m≠a->seen S (numOf s M st m) k=some (f m)) :
  (tog s M k st (tkNot a) S M).2.2=0/\(tog s M k st (tkNot a) S M).2.1=f a:=by
 obtain ⟨h1,h2,h3⟩:=tog_there (s:=s) (M:=M) (k:=k) (st:=st) (tk:=tkNot a) hon f fun m hm ht=>h m hm (by simpa [tkNot] using ht)
 refine ⟨h1,sec_ext h2 (hf a ha).1 fun i hi=>?_⟩
 rw [h3 i hi,xf_not _ ha,hz i hi,Nat.zero_xor]
theorem tog_neither (hon:S.off=false) {f:Nat->Sh.Bs} (hz:SumZ M f) (hf:∀m,m<M->Sh.Sec (f m)) {a b:Nat} (ha:a<M) (hb:b<M) (hab:a≠b) (h:∀m,m<M->m≠a->m≠b->seen S (numOf s M st m) k=some (f m)) :
  (tog s M k st (tkNeither a b) S M).2.2=0/\(tog s M k st (tkNeither a b) S M).2.1=xorL (f a) (f b):=by
 obtain ⟨h1,h2,h3⟩:=tog_there (s:=s) (M:=M) (k:=k) (st:=st) (tk:=tkNeither a b) hon f fun m hm ht=>by
  have ht:m≠a/\m≠b:=by simpa [tkNeither] using ht
  exact h m hm ht.1 ht.2
 refine ⟨h1,sec_ext h2 (by rw [xorL_len];exact (hf a ha).1) fun i hi=>?_⟩
 rw [h3 i hi,xf_neither _ ha hb hab,hz i hi,Nat.zero_xor,xl_at (hf a ha).1 hi]
theorem tog_either (hon:S.off=false) {f:Nat->Sh.Bs} (hf:∀m,m<M->Sh.Sec (f m)) {a b:Nat} (ha:a<M) (hb:b<M) (hab:a≠b) (h1:seen S (numOf s M st a) k=some (f a)) (h2:seen S (numOf s M st b) k=some (f b)) :
  (tog s M k st (tkEither a b) S M).2.2=0/\(tog s M k st (tkEither a b) S M).2.1=xorL (f a) (f b):=by
 obtain ⟨h1,h2,h3⟩:=tog_there (s:=s) (M:=M) (k:=k) (st:=st) (tk:=tkEither a b) hon f fun m hm ht=>by
  have ht:m=a\/m=b:=by simpa [tkEither] using ht
  rcases ht with rfl | rfl
  ·exact h1
  ·exact h2
 refine ⟨h1,sec_ext h2 (by rw [xorL_len];exact (hf a ha).1) fun i hi=>?_⟩
 rw [h3 i hi,xf_two _ a b hab,if_pos ha,if_pos hb,xl_at (hf a ha).1 hi]
theorem part_is (hon:S.off=false) {f:Nat->Sh.Bs} (hz:SumZ M f) (hf:∀m,m<M->Sh.Sec (f m)) {a b:Nat} (ha:a<M) (hb:b<M) (hab:a≠b) {X:Nat->Prop} (hX:∀m m',m<M->m'<M->X m->X m'->m=m')
  (h:∀m,m<M->seen S (numOf s M st m) k=some (f m)\/(X m/\seen S (numOf s M st m) k=none)) :
  (partR s M k st a b S).2.2=0/\(partR s M k st a b S).2.1=xorL (f a) (f b):=by
 unfold partR
 by_cases hl:∃m,m<M/\m≠a/\m≠b/\seen S (numOf s M st m) k=none
 ·obtain ⟨m,hm,hma,hmb,hn⟩:=hl
  have hXm:X m:=(h m hm).elim (fun e=>by rw [hn] at e;cases e) (fun e=>e.1)
  have h10:=tog_lacks (s:=s) (M:=M) (k:=k) (st:=st) (tk:=tkNeither a b) hon hm (by simp [tkNeither,hma,hmb]) hn
  rw [if_neg (by rw [h10];simp)]
  have hsm:=tog_same (s:=s) (M:=M) (k:=k) (st:=st) (S:=S) (tk:=tkNeither a b) M
  generalize (tog s M k st (tkNeither a b) S M).1=T at *
  have hthere:∀x,x<M->x≠m->seen T (numOf s M st x) k=some (f x):=fun x hx hxm=>by
   rw [seen_same hsm]
   exact (h x hx).elim id fun e=>absurd (hX x m hx hm e.1 hXm) hxm
  exact tog_either (hsm.off.trans hon) hf ha hb hab (hthere a ha (Ne.symm hma)) (hthere b hb (Ne.symm hmb))
 ·have hth:∀m,m<M->m≠a->m≠b->seen S (numOf s M st m) k=some (f m):=fun m hm hma hmb=>(h m hm).elim id fun e=>absurd ⟨m,hm,hma,hmb,e.2⟩ hl
  obtain ⟨h1,h2⟩:=tog_neither (s:=s) (k:=k) (st:=st) hon hz hf ha hb hab hth
  rw [if_pos (by rw [h1];decide)]
  exact ⟨h1,h2⟩
end
def SecS (S:Sh.Sf):Prop:=∀x∈S.disks,(∀b∈x.sure,Sh.Sec b)/\(∀y∈x.waits,Sh.Sec y.2)/\x.sure.length=S.sectors
section
variable {S S':Sh.Sf} {d k n:Nat} {o y o':Int} {b:Sh.Bs}
theorem SecS.dk (h:SecS S) (hd:d<S.disks.length):(∀b∈(dk S d).sure,Sh.Sec b)/\(∀y∈(dk S d).waits,Sh.Sec y.2)/\(dk S d).sure.length=S.sectors:=h _ (Sh.getD_mem hd)
theorem latest_or (l:List (Nat × Sh.Bs)) (n:Nat) (x:Sh.Bs):Sh.latest l n x=x\/∃y∈l,Sh.latest l n x=y.2:=by
 induction l generalizing x with
 | nil=>exact .inl rfl
 | cons a t ih =>
  unfold Sh.latest
  by_cases e:a.1=n
  ·rw [if_pos e]
   rcases ih a.2 with h | ⟨y,hy,h⟩
   ·exact .inr ⟨a,List.mem_cons_self ..,h⟩
   ·exact .inr ⟨y,List.mem_cons_of_mem _ hy,h⟩
  ·rw [if_neg e]
   rcases ih x with h | ⟨y,hy,h⟩
   ·exact .inl h
   ·exact .inr ⟨y,List.mem_cons_of_mem _ hy,h⟩
theorem SecS.V (h:SecS S) (hd:d<S.disks.length) (hn:n<S.sectors):Sh.Sec (V S d n):=by
 obtain ⟨h1,h2,h3⟩:=h.dk hd
 have h0:Sh.Sec ((U.dk S d).sure.getD n []):=by
  have hl:n<(U.dk S d).sure.length:=by rw [h3];exact hn
  rw [List.getD_eq_getElem?_getD,List.getElem?_eq_getElem hl]
  exact h1 _ (List.getElem_mem hl)
 rcases latest_or (U.dk S d).waits n ((U.dk S d).sure.getD n []) with e | ⟨z,hz,e⟩
 ·show Sh.Sec (Sh.latest (U.dk S d).waits n ((U.dk S d).sure.getD n []))
  rw [e];exact h0
 ·show Sh.Sec (Sh.latest (U.dk S d).waits n ((U.dk S d).sure.getD n []))
  rw [e];exact h2 z hz
theorem SecS.set {l:List Sh.Dk} {x:Sh.Dk} {m:Nat} (h:∀x∈l,(∀b∈x.sure,Sh.Sec b)/\(∀y∈x.waits,Sh.Sec y.2)/\x.sure.length=m) (hx:(∀b∈x.sure,Sh.Sec b)/\(∀y∈x.waits,Sh.Sec y.2)/\x.sure.length=m) (d:Nat) :
  ∀z∈l.set d x,(∀b∈z.sure,Sh.Sec b)/\(∀y∈z.waits,Sh.Sec y.2)/\z.sure.length=m:=fun z hz=>by
 rcases List.mem_or_eq_of_mem_set hz with h1 | h1
 ·exact h z h1
 ·rw [h1];exact hx
theorem SecS.wr (h:SecS S) (hd:d<S.disks.length) (n:Nat) (hb:Sh.Sec b):SecS (Wr S d n b):=by
 unfold Wr
 split
 ·obtain ⟨h1,h2,h3⟩:=h.dk hd
  exact SecS.set h (x:=(U.dk S d).write n b) ⟨h1,fun y hy=>by
   have hy:y∈(U.dk S d).waits++[(n,b)]:=hy
   rcases List.mem_append.1 hy with hy | hy
   ·exact h2 y hy
   ·rw [List.mem_singleton.1 hy];exact hb,h3⟩ d
 ·exact h
theorem SecS.settle {k:Sh.Dk} {m:Nat} (h:(∀b∈k.sure,Sh.Sec b)/\(∀y∈k.waits,Sh.Sec y.2)/\k.sure.length=m) (kp:Nat->Bool):(∀b∈(k.settle kp).sure,Sh.Sec b)/\(∀y∈(k.settle kp).waits,Sh.Sec y.2)/\(k.settle kp).sure.length=m :=
 ⟨Sh.stl_all kp k.waits 0 k.sure h.2.1 h.1,(fun y hy=>by cases hy),(Sh.stl_length _ _ _ _).trans h.2.2⟩
theorem SecS.fl (h:SecS S) (hd:d<S.disks.length):SecS (Fl S d):=by
 unfold Fl
 split
 ·exact SecS.set h (x:=(U.dk S d).settle (fun _=>true)) (SecS.settle (h.dk hd) _) d
 ·exact h
theorem SecS.same (h:SecS S) (hs:Same S S'):SecS S':=by
 unfold SecS
 rw [hs.disks,hs.sectors]
 exact h
theorem SecS.dw (h:SecS S) (hd:d<S.disks.length) (hk:k<blk S.sectors) (hb:Sh.Sec b) (hD:DW S d o k b y o' S'):SecS S':=by
 rcases hD with ⟨_,_,_,rfl⟩ | ⟨_,b',R,hb',rfl,_,_,_,_,rfl⟩
 ·exact h
 ·have hX:=h.V hd (sum_of_lt hk).2.1
  refine SecS.wr ?_ (by rw [ready_length];exact hd) _ hb
  unfold Ready ReadyQ
  have h1:SecS (Looked S d):=h.same ((Same.refl S).looked d)
  have l1:d<(Looked S d).disks.length:=by rw [looked_disks];exact hd
  have h2:SecS (flIf (Looked S d) d o k):=by
   unfold flIf
   split
   ·exact h1.fl l1
   ·exact h1
  have l2:d<(flIf (Looked S d) d o k).disks.length:=by rw [flIf_length];exact l1
  have h3:SecS (spIf (flIf (Looked S d) d o k) d k (goodAt S d k) (sumL d k (U.V S d (dataOf k))) (sumL d k b) b'):=by
   unfold spIf
   split
   ·exact (h2.wr l2 _ hb').fl (by rw [wr_length];exact l2)
   ·exact h2
  have l3:d<(spIf (flIf (Looked S d) d o k) d k (goodAt S d k) (sumL d k (U.V S d (dataOf k))) (sumL d k b) b').disks.length:=by rw [spIf_length];exact l2
  exact (h3.wr l3 _ (setPair_sec hX)).fl (by rw [wr_length];exact l3)
def Dead (S:Sh.Sf) (d:Nat):Bool:=(dk S d).dead
theorem dead_fl (S:Sh.Sf) (d e:Nat):Dead (Fl S d) e=Dead S e:=by
 unfold Dead dk Fl
 split
 ·show ((S.disks.set d ((S.disks.getD d default).settle (fun _=>true))).getD e default).dead=_
  by_cases h:e=d
  ·subst h
   by_cases hl:e<S.disks.length
   ·simp [List.getD,hl]
    rfl
   ·rw [List.set_eq_of_length_le (by omega)]
  ·rw [getD_set_ne _ h]
 ·rfl
theorem dead_wr (S:Sh.Sf) (d n:Nat) (b:Sh.Bs) (e:Nat):Dead (Wr S d n b) e=Dead S e:=by
 unfold Dead dk Wr
 split
 ·show ((S.disks.set d ((S.disks.getD d default).write n b)).getD e default).dead=_
  by_cases h:e=d
  ·subst h
   by_cases hl:e<S.disks.length
   ·simp [List.getD,hl]
    rfl
   ·rw [List.set_eq_of_length_le (by omega)]
  ·rw [getD_set_ne _ h]
 ·rfl
theorem dead_same (h:Same S S') (e:Nat):Dead S' e=Dead S e:=by unfold Dead dk;rw [h.disks]
theorem dead_dw (hD:DW S d o k b y o' S') (e:Nat):Dead S' e=Dead S e:=by
 rcases hD with ⟨_,_,_,rfl⟩ | ⟨_,b',R,hb',rfl,_,_,_,_,rfl⟩
 ·rfl
 ·rw [dead_wr]
  unfold Ready ReadyQ
  rw [dead_fl,dead_wr]
  have h2:Dead (flIf (Looked S d) d o k) e=Dead S e:=by
   unfold flIf
   split
   ·rw [dead_fl];exact dead_same ((Same.refl S).looked d) e
   ·exact dead_same ((Same.refl S).looked d) e
  unfold spIf
  split
  ·rw [dead_fl,dead_wr];exact h2
  ·exact h2
theorem dead_why (h:Dead S d=true) (hon:S.off=false):Sh.why S d=4:=by
 unfold Dead dk at h
 unfold Sh.why
 rw [hon,h]
 rfl
theorem alive_why (h:Dead S d=false) (hon:S.off=false):Sh.why S d=0:=by
 unfold Dead dk at h
 unfold Sh.why
 rw [hon,h]
 rfl
theorem off_why (hoff:S.off≠false) (d:Nat):Sh.why S d=3:=by
 unfold Sh.why
 rw [if_pos (by simpa using hoff)]
theorem seen_alive (h:Dead S d=false) (hon:S.off=false) (k:Nat):seen S d k=vo S d k:=by
 unfold seen
 rw [if_pos (alive_why h hon)]
theorem seen_dead (h:Dead S d=true) (k:Nat):seen S d k=none:=by
 unfold seen
 rw [if_neg]
 intro e
 unfold Dead dk at h
 unfold Sh.why at e
 rw [h] at e
 by_cases ho:S.off=true
 ·rw [if_pos ho] at e;exact absurd e (by decide)
 ·rw [if_neg ho,if_pos rfl] at e;exact absurd e (by decide)
end
/-! ### all disks are flushed -/
section
variable {S:Sh.Sf} {n:Nat} {o:Nat->Int} {P:Nat->Co}
theorem fdS_dead (S:Sh.Sf) (j e:Nat):Dead (fdS S j).1 e=Dead S e:=by
 induction j with
 | zero=>rfl
 | succ j ih =>
  unfold fdS
  split
  ·rw [dead_fl];exact ih
  ·exact ih
theorem fdS_secS (h:SecS S) {j:Nat} (hj:j<=S.disks.length):SecS (fdS S j).1:=by
 induction j with
 | zero=>exact h
 | succ j ih =>
  unfold fdS
  split
  ·exact (ih (by omega)).fl (by rw [fdS_length];omega)
  ·exact ih (by omega)
structure Fds (S:Sh.Sf) (n:Nat) (o:Nat->Int) (P:Nat->Co) (j:Nat) (T:Sh.Sf) (y:Int):Prop where
 y03:y=0\/y=3
 off:y≠0->T.off≠false
 vo:∀d,d<n->Dead S d=false->vo T d=vo S d
 jp:∀d,d<n->Dead S d=false->Jp2 T d (o d) (P d)
 done:y=0->∀d,d<j->d<n->Dead S d=false->(∀o',Jp2 T d o' (fun c=>c=U.vo S d))/\(dk T d).waits=[]
 on:T.off=false->S.off=false
theorem Fds.all (hn:S.disks.length=n) (h:∀d,d<n->Dead S d=false->Jp2 S d (o d) (P d)):∀j,j<=n->Fds S n o P j (fdS S j).1 (fdS S j).2:=by
 intro j
 induction j with
 | zero=>exact fun _=>⟨.inl rfl,fun e=>absurd rfl e,fun _ _ _=>rfl,h,fun _ d hd=>absurd hd (by omega),id⟩
 | succ j ih =>
  intro hj
  have hi:=ih (by omega)
  by_cases h0:(fdS S j).2=0
  ·rw [fdS_succ S h0]
   have hd0:=fdS_dead S j j
   have hsec:=fdS_sectors S j
   have hdd:=hi.done h0
   have hv:=hi.vo
   have hjp:=hi.jp
   have hon2:=hi.on
   have hle:=fdS_length S j
   generalize (fdS S j).1=T at *
   have hal:=alike_fl T j
   by_cases hdead:Dead T j=true
   ·-- a dead disk
    have hne:∀d,d<n->Dead S d=false->d≠j:=fun d _ hd e=>by rw [e,<- hd0,hdead] at hd;cases hd
    have hfl:Fl T j=T:=fl_why fun e=>by
     have h1:=hdead
     unfold Dead dk at h1
     unfold Sh.why at e
     rw [h1] at e
     by_cases ho:T.off=true
     ·rw [if_pos ho] at e;exact absurd e (by decide)
     ·rw [if_neg ho,if_pos rfl] at e;exact absurd e (by decide)
    rw [hfl]
    have hy:bd (Sh.why T j)=0\/(bd (Sh.why T j)=3/\T.off≠false):=by
     by_cases ho:T.off=false
     ·rw [dead_why hdead ho];exact .inl rfl
     ·rw [off_why ho];exact .inr ⟨rfl,ho⟩
    exact ⟨hy.imp id And.left,fun e=>hy.elim (fun e2=>absurd e2 e) And.right,hv,hjp,fun e d hd hdn hda=>hdd d (by have:=hne d hdn hda;omega) hdn hda,hon2⟩
   ·have hda:Dead S j=false:=by rw [<- hd0];simpa using hdead
    have hjj:=hjp j (by omega) hda
    have hw:=hjj.one.why_y
    have hoff:Sh.why T j=0↔T.off=false:=hjj.one.why0
    refine ⟨by rcases hw with e | e<;>rw [e];exact .inl rfl;exact .inr rfl,fun e=>?_,fun d hd hds=>?_,fun d hd hds=>?_,fun e d hd hdn hds=>?_,fun e=>hon2 (fl_on hjj.one e)⟩
    ·have hwn:Sh.why T j≠0:=fun e2=>by rw [e2] at e;exact e rfl
     rw [fl_why hwn]
     exact fun e2=>hwn (hoff.mpr e2)
    ·by_cases hdj:d=j
     ·rw [hdj] at hd hds ⊢
      by_cases e:T.off=false
      ·rw [(hjj.fl e 0).2.1];exact hv j hd hds
      ·rw [hjj.fl_off e];exact hv j hd hds
     ·rw [vo_alike hal hdj];exact hv d hd hds
    ·by_cases hdj:d=j
     ·rw [hdj]
      by_cases e:T.off=false
      ·have hnow:=hjj.now e
       exact (hjj.fl e (o j)).1.more fun c e2=>by rw [e2];exact hnow
      ·rw [hjj.fl_off e];exact hjj
     ·exact (hjp d hd hds).alike hal (fl_sectors T j) (fun e=>fl_on hjj.one e) hdj
    ·have hwj:Sh.why T j=0:=hw.elim id fun e2=>by rw [e2] at e;exact absurd e (show ¬bd 3=0 by decide)
     have ho:=hoff.mp hwj
     by_cases hdj:d=j
     ·rw [hdj] at hdn hds ⊢
      refine ⟨fun o'=>?_,(hjj.fl ho 0).2.2⟩
      rw [<- hv j hdn hds]
      exact (hjj.fl ho o').1
     ·obtain ⟨q1,q2⟩:=hdd d (by omega) hdn hds
      refine ⟨fun o'=>(q1 o').alike hal (fl_sectors T j) (fun e=>fl_on hjj.one e) hdj,?_⟩
      have:dk (Fl T j) d=dk T d:=hal.2 d hdj
      rw [this];exact q2
  ·have e:fdS S (j+1)=fdS S j:=fdS_stop S h0 (Nat.le_succ j)
   rw [e]
   exact ⟨hi.y03,hi.off,hi.vo,hi.jp,fun e=>absurd e h0,hi.on⟩
end
def pm (M st:Nat):Nat:=L.par M st
def plM (M st dm:Nat):Nat:=L.placeOf M (pm M st) dm
structure Gh where
 dat:Nat->Nat->Sh.Bs
 op:Nat->Option (Nat × Sh.Bs)
 sl:Nat->Nat->Option (Nat × Nat)
 sure:Nat->Nat->Bool
 lack:Nat->Nat->Prop
def partG (g:Gh) (M st dm:Nat):Sh.Bs:=xorL (g.dat st dm) (g.dat st (pm M st))
def recH (g:Gh) (M st dm:Nat):Sh.Bs:=headL (numF st (plM M st dm) (Nums.sum 0 (partG g M st dm)))
def okBlk (g:Gh) (M st m:Nat) (v:Option Sh.Bs):Prop :=
 v=some (g.dat st m)\/(g.lack st m/\v=none)\/∃dm old,g.op st=some (dm,old)/\((m=dm/\v=some old)\/(m=pm M st/\v=some (xorL (partG g M st dm) old)))
def okSlot (g:Gh) (M d k:Nat) (h q:Option Sh.Bs):Prop :=
 (g.sl d k=none/\h=some Sh.noughts)\/∃st dm,g.sl d k=some (st,dm)/\((g.sure d k=false/\h=some Sh.noughts)\/(h=some (recH g M st dm)/\q=some (partG g M st dm)))
structure Ar where
 s:SuP
 n:Nat
 L:Nat
 M:Nat
 St:Nat
 Q:Nat->Option Sh.Bs->Option Sh.Bs->Prop
def Ar.at (A:Ar) (st:Nat):Nat:=2+2*A.L+st
def Ar.num (A:Ar) (st m:Nat):Nat:=numOf A.s A.M st m
structure Pd (A:Ar) (g:Gh) (d:Nat) (c:Nat->Option Sh.Bs):Prop where
 blk:∀st,st<A.St->∀m,m<A.M->A.num st m=d->okBlk g A.M st m (c (A.at st))
 slot:∀k,k<A.L->okSlot g A.M d k (c (2+2*k)) (c (3+2*k))
 part:∀k,k<A.L->c (3+2*k)≠none
 said:A.Q d (c 0) (c 1)
structure GhOk (A:Ar) (g:Gh):Prop where
 sum:∀st,st<A.St->SumZ A.M (g.dat st)
 sec:∀st m,st<A.St->m<A.M->Sh.Sec (g.dat st m)
 op:∀st dm old,g.op st=some (dm,old)->st<A.St/\dm<A.M/\dm≠pm A.M st/\Sh.Sec old
 sl:∀d k st dm,g.sl d k=some (st,dm)->st<A.St/\dm<A.M/\dm≠pm A.M st/\A.num st (pm A.M st)=d/\∀dm' old,g.op st=some (dm',old)->dm'=dm
 lack:∀st m m',st<A.St->m<A.M->m'<A.M->g.lack st m->g.lack st m'->m=m'
def RecOk (A:Ar) (S:Sh.Sf) (g:Gh):Prop :=
 ∀st dm old,g.op st=some (dm,old)->Dead S (A.num st dm)=false->Dead S (A.num st (pm A.M st))=false->∃k,k<A.L/\g.sl (A.num st (pm A.M st)) k=some (st,dm)/\g.sure (A.num st (pm A.M st)) k=true
structure ArOk (A:Ar):Prop where
 m3:3<=A.M
 l1:1<=A.L
 n17:A.n<=17
 l8:A.L<=8
 s2:A.St<=1024
 num:∀st m,m<A.M->A.num st m<A.n
 inj:∀st m m',m<A.M->m'<A.M->A.num st m=A.num st m'->m=m'
structure Ci (A:Ar) (S:Sh.Sf) (o:Nat->Int) (g:Gh):Prop where
 ar:ArOk A
 ok:GhOk A g
 disk:∀d,d<A.n->Dead S d=false->Jp2 S d (o d) (Pd A g d)
 dead:∀st m,st<A.St->m<A.M->Dead S (A.num st m)=true->g.lack st m
 rc:RecOk A S g
 len:S.disks.length=A.n
 fit:2+2*A.L+A.St<=blk S.sectors
 sec:SecS S
structure Fi (A:Ar) (S:Sh.Sf) (o:Nat->Int) (g:Gh) (U:Set0):Prop where
 ci:Ci A S o g
 on:S.off=false
 now:∀st,st<A.St->∀m,m<A.M->seen S (A.num st m) (A.at st)=some (g.dat st m)\/(g.lack st m/\seen S (A.num st m) (A.at st)=none)
 used:∀d k,d<A.n->k<A.L->g.sl d k≠none->Maps.has U (slotKey d k)=true
structure Oi (A:Ar) (S:Sh.Sf) (o:Nat->Int) (g:Gh) (D U:Set0):Prop where
 fi:Fi A S o g U
 opens:∀st,st<A.St->g.op st≠none->Maps.has D (.int .i64 st)=true
 slots:∀d k st dm,g.sl d k=some (st,dm)->Maps.has D (.int .i64 st)=true
section
variable {A:Ar} {S S':Sh.Sf} {o:Nat->Int} {g g':Gh} {D U:Set0} {d k:Nat} {y z:Int} {b:Sh.Bs}
theorem pm_lt (h:ArOk A) (st:Nat):pm A.M st<A.M:=L.par_lt _ _ (by have:=h.m3;omega)
theorem Ci.small (h:Ci A S o g) (hd:d<A.n) (hk:k<blk S.sectors):Small (V S d (dataOf k)):=(h.sec.V (by rw [h.len];exact hd) (sum_of_lt hk).1).2
theorem Ci.at_lt (h:Ci A S o g) {st:Nat} (hst:st<A.St):A.at st<blk S.sectors:=by have:=h.fit;unfold Ar.at;omega
theorem Ci.same (h:Ci A S o g) (hs:Same S S'):Ci A S' o g :=
 ⟨h.ar,h.ok,fun d hd hda=>(h.disk d hd (by rw [<- dead_same hs];exact hda)).same hs,fun st m h1 h2 h3=>h.dead st m h1 h2 (by rw [<- dead_same hs];exact h3),fun st dm old h1 h2 h3=>h.rc st dm old h1 (by rw [<- dead_same hs];exact h2) (by rw [<- dead_same hs];exact h3),by rw [hs.disks];exact h.len,by rw [hs.sectors];exact h.fit,h.sec.same hs⟩
theorem Fi.same (h:Fi A S o g U) (hs:Same S S'):Fi A S' o g U :=
 ⟨h.ci.same hs,hs.off.trans h.on,fun st hst m hm=>by rw [seen_same hs];exact h.now st hst m hm,h.used⟩
theorem Oi.same (h:Oi A S o g D U) (hs:Same S S'):Oi A S' o g D U:=⟨h.fi.same hs,h.opens,h.slots⟩
theorem Ci.dw (h:Ci A S o g) (hd:d<A.n) (ha:Dead S d=false) (hk:k<blk S.sectors) (hb:Sh.Sec b) (hz:S.off=false->NoBlank S d k b) (hD:DW S d (o d) k b y z S')
  (hm:∀e,e<A.n->∀c,Pd A g e c->Pd A g' e c) (hnew:S.off=false->Pd A g' d (updO (vo S d) k (some b))) (hg:GhOk A g') (hl:∀st m,g.lack st m->g'.lack st m) (hr:RecOk A S g') :
  Ci A S' (put1 o d z) g'/\(y=0->vo S' d=updO (vo S d) k (some b))/\(S'.off=false->y=0/\S.off=false)/\(S.off≠false->S'=S/\y=3)/\(y=0\/y=3)/\(y=0->S.off=false)/\(∀e,Dead S' e=Dead S e)/\(∀e,e≠d->vo S' e=vo S e):=by
 obtain ⟨j1,j2,j3,j4,j5,j6⟩:=(h.disk d hd ha).dw hk hb.2 (h.small hd hk) hz hD
 have hdd:=dead_dw hD
 have hal:=hD.alike
 refine ⟨⟨h.ar,hg,fun e he hde=>?_,fun st m h1 h2 h3=>hl st m (h.dead st m h1 h2 (by rw [<- hdd];exact h3)),fun st dm old h1 h2 h3=>hr st dm old h1 (by rw [<- hdd];exact h2) (by rw [<- hdd];exact h3),hD.len.trans h.len,by rw [hD.sectors];exact h.fit,h.sec.dw (by rw [h.len];exact hd) hk hb hD⟩,j2,j3,j4,j5,j6,hdd,fun e he=>vo_alike hal he⟩
 by_cases c:e=d
 ·rw [c]
  have e1:put1 o d z d=z:=by unfold put1;rw [if_pos rfl]
  rw [e1]
  exact j1.more fun c hc=>hc.elim (hm d hd c) fun e2=>by rw [e2.2];exact hnew e2.1
 ·have e1:put1 o d z e=o e:=by unfold put1;rw [if_neg c]
  rw [e1]
  rw [hdd] at hde
  exact ((h.disk e he hde).alike hal hD.sectors (fun e2=>(j3 e2).2) c).more (hm e he)
theorem Ci.fl (h:Ci A S o g) (hd:d<A.n) (ha:Dead S d=false) (hm:∀e,e<A.n->e≠d->∀c,Pd A g e c->Pd A g' e c) (hnow:S.off=false->Pd A g' d (vo S d)) (hoff:∀c,S.off≠false->Pd A g d c->Pd A g' d c) (hg:GhOk A g') (hl:∀st m,g.lack st m->g'.lack st m) (hr:RecOk A S g') (z:Int) :
  Ci A (Fl S d) (put1 o d z) g'/\vo (Fl S d) d=vo S d/\((Fl S d).off=false->S.off=false)/\(∀e,Dead (Fl S d) e=Dead S e)/\(∀e,e≠d->vo (Fl S d) e=vo S e):=by
 have hj:=h.disk d hd ha
 have hdd:=dead_fl S d
 have hal:=alike_fl S d
 have hon:(Fl S d).off=false->S.off=false:=fl_on hj.one
 refine ⟨⟨h.ar,hg,fun e he hde=>?_,fun st m h1 h2 h3=>hl st m (h.dead st m h1 h2 (by rw [<- hdd];exact h3)),fun st dm old h1 h2 h3=>hr st dm old h1 (by rw [<- hdd];exact h2) (by rw [<- hdd];exact h3),(fl_length S d).trans h.len,by rw [fl_sectors];exact h.fit,h.sec.fl (by rw [h.len];exact hd)⟩,?_,hon,hdd,fun e he=>vo_alike hal he⟩
 ·by_cases c:e=d
  ·rw [c]
   by_cases ho:S.off=false
   ·exact (hj.fl ho _).1.more fun c e2=>by rw [e2];exact hnow ho
   ·rw [hj.fl_off ho]
    exact (hj.off_any ho _).more fun c hc=>hoff c ho hc
  ·have e1:put1 o d z e=o e:=by unfold put1;rw [if_neg c]
   rw [e1]
   rw [hdd] at hde
   exact ((h.disk e he hde).alike hal (fl_sectors S d) hon c).more (hm e he c)
 ·by_cases ho:S.off=false
  ·exact (hj.fl ho 0).2.1
  ·rw [hj.fl_off ho]
end
structure Gle (g' g:Gh):Prop where
 dat:g'.dat=g.dat
 op:∀st x,g'.op st=some x->g.op st=some x
 lack:g'.lack=g.lack
theorem Gle.refl (g:Gh):Gle g g:=⟨rfl,fun _ _ e=>e,rfl⟩
theorem Gle.trans {a b c:Gh} (h:Gle a b) (k:Gle b c):Gle a c:=⟨h.dat.trans k.dat,fun st x e=>k.op st x (h.op st x e),h.lack.trans k.lack⟩
def Gh.shut (g:Gh):Gh:={ g with op:=fun _=>none,sure:=fun _ _=>false }
def Gh.closed (g:Gh):Gh:={ g with op:=fun _=>none,sl:=fun _ _=>none }
theorem gle_shut (g:Gh):Gle g.shut g:=⟨rfl,(fun _ _ e=>by cases e),rfl⟩
theorem gle_closed (g:Gh):Gle g.closed g:=⟨rfl,(fun _ _ e=>by cases e),rfl⟩
theorem has_none {U:Set0} (h:Maps.size U=0) (k:Lit):Maps.has U k=false:=by
 unfold Maps.size at h
 unfold Maps.has
 split
 ·rename_i es
  simp only at h
  rw [List.eq_nil_of_length_eq_zero h]
  rfl
 ·rfl
theorem mem_slotsTo {L j k d x:Nat} (hd:d<j) (hx:x<L):(d,x)∈slotsTo L j k:=by
 unfold slotsTo
 refine List.mem_append_left _ ?_
 rw [List.mem_flatMap]
 exact ⟨d,List.mem_range.2 hd,List.mem_map.2 ⟨x,List.mem_range.2 hx,rfl⟩⟩
theorem slotsTo_lt {L j k n:Nat} (hj:j<n) (hk:k<=L) {x:Nat × Nat} (h:x∈slotsTo L j k):x.1<n/\x.2<L:=by
 unfold slotsTo at h
 rcases List.mem_append.1 h with h | h
 ·rw [List.mem_flatMap] at h
  obtain ⟨d,hd,h⟩:=h
  obtain ⟨y,hy,rfl⟩:=List.mem_map.1 h
  exact ⟨by have:=List.mem_range.1 hd;omega,List.mem_range.1 hy⟩
 ·obtain ⟨y,hy,rfl⟩:=List.mem_map.1 h
  exact ⟨hj,by have:=List.mem_range.1 hy;omega⟩
theorem slotsTo_all {L n:Nat} {x:Nat × Nat} (h:x∈slotsTo L n 0):x.1<n/\x.2<L:=by
 unfold slotsTo at h
 rcases List.mem_append.1 h with h | h
 ·rw [List.mem_flatMap] at h
  obtain ⟨d,hd,h⟩:=h
  obtain ⟨y,hy,rfl⟩:=List.mem_map.1 h
  exact ⟨List.mem_range.1 hd,List.mem_range.1 hy⟩
 ·simp at h
section
variable {A:Ar} {S S':Sh.Sf} {o:Nat->Int} {g g':Gh} {D U:Set0} {d k:Nat} {y z:Int} {b:Sh.Bs}
theorem okSlot.head {M:Nat} {h q:Option Sh.Bs} (e:okSlot g M d k h q):h≠none:=by
 rcases e with ⟨_,rfl⟩ | ⟨_,_,_,⟨_,rfl⟩ | ⟨rfl,_⟩⟩<;>simp
theorem GhOk.shut (h:GhOk A g):GhOk A g.shut:=⟨h.sum,h.sec,(fun _ _ _ e=>by cases e),fun d k st dm e=>by
 obtain ⟨h1,h2,h3,h4,_⟩:=h.sl d k st dm e
 exact ⟨h1,h2,h3,h4,fun _ _ e=>by cases e⟩,h.lack⟩
theorem GhOk.closed (h:GhOk A g):GhOk A g.closed:=⟨h.sum,h.sec,(fun _ _ _ e=>by cases e),(fun _ _ _ _ e=>by cases e),h.lack⟩
theorem Fi.shutPd (h:Fi A S o g U) (hd:d<A.n) (ha:Dead S d=false):Pd A g.shut d (vo S d):=by
 have hp:=(h.ci.disk d hd ha).now h.on
 refine ⟨fun st hst m hm hn=>?_,fun k hk=>?_,hp.part,hp.said⟩
 ·have hs:=h.now st hst m hm
  rw [hn,seen_alive ha h.on] at hs
  exact hs.imp id fun e=>.inl e
 ·rcases hp.slot k hk with e | ⟨st,dm,e1,e2⟩
  ·exact .inl e
  ·exact .inr ⟨st,dm,e1,e2.imp (fun e=>⟨rfl,e.2⟩) id⟩
theorem Ci.flushed (h:Ci A S o g) {g':Gh} (hg:GhOk A g') (hl:g'.lack=g.lack) (hr:∀st x,g'.op st≠some x) (hp:∀d,d<A.n->Dead S d=false->Pd A g' d (vo S d)) (h0:(fdS S A.n).2=0) (o':Nat->Int) :
  Ci A (fdS S A.n).1 o' g'/\(∀d,d<A.n->Dead S d=false->vo (fdS S A.n).1 d=vo S d)/\(∀d,Dead (fdS S A.n).1 d=Dead S d):=by
 have hF:=Fds.all (P:=Pd A g) h.len (fun d hd ha=>h.disk d hd ha) A.n (Nat.le_refl _)
 have hd:=fdS_dead S A.n
 refine ⟨⟨h.ar,hg,fun d h1 h2=>?_,fun st m h1 h2 h3=>?_,fun st dm old e=>absurd e (hr st _),(fdS_length S A.n).trans h.len,by rw [fdS_sectors];exact h.fit,fdS_secS h.sec (by rw [h.len];exact Nat.le_refl _)⟩,hF.vo,hd⟩
 ·rw [hd] at h2
  exact ((hF.done h0 d h1 h1 h2).1 (o' d)).more fun c e=>by rw [e];exact hp d h1 h2
 ·rw [hl]
  exact h.dead st m h1 h2 (by rw [<- hd];exact h3)
theorem fdS_off {S:Sh.Sf} (hoff:S.off≠false) {n:Nat} (hn:1<=n):fdS S n=(S,3):=by
 have hw:=off_why hoff 0
 have h1:fdS S 1=(S,3):=by
  rw [fdS_succ S (d:=0) rfl]
  show (Fl S 0,bd (Sh.why S 0))=_
  rw [fl_why (by rw [hw];decide),hw]
  rfl
 rw [fdS_stop S (k:=1) (n:=n) (by rw [h1];simp) hn,h1]
theorem Ci.n1 (h:Ci A S o g):1<=A.n:=by
 have:=h.ar.num 0 0 (by have:=h.ar.m3;omega)
 omega
theorem Ci.flushOff (h:Ci A S o g) (h0:(fdS S A.n).2≠0) (o':Nat->Int) :
  Ci A (fdS S A.n).1 o' g/\(fdS S A.n).2=3/\(fdS S A.n).1.off≠false/\(∀d,Dead (fdS S A.n).1 d=Dead S d):=by
 have hF:=Fds.all (P:=Pd A g) h.len (fun d hd ha=>h.disk d hd ha) A.n (Nat.le_refl _)
 have hd:=fdS_dead S A.n
 refine ⟨⟨h.ar,h.ok,fun d h1 h2=>?_,fun st m h1 h2 h3=>h.dead st m h1 h2 (by rw [<- hd];exact h3),fun st dm old h1 h2 h3=>h.rc st dm old h1 (by rw [<- hd];exact h2) (by rw [<- hd];exact h3),(fdS_length S A.n).trans h.len,by rw [fdS_sectors];exact h.fit,fdS_secS h.sec (by rw [h.len];exact Nat.le_refl _)⟩,hF.y03.elim (fun e=>absurd e h0) id,hF.off h0,hd⟩
 rw [hd] at h2
 exact (hF.jp d h1 h2).off_any (hF.off h0) (o' d)
/-! ### slots are cleared -/
structure ClrI (A:Ar) (S:Sh.Sf) (U:Set0) (g:Gh) (l:List (Nat × Nat)) (c:Stt):Prop where
 ci:Ci A c.S c.o g
 dead:∀d,Dead c.S d=Dead S d
 kept:∀d,d<A.n->Dead S d=false->∀j,vo c.S d j=vo S d j\/(∃k,k<A.L/\j=2+2*k)/\vo c.S d j=some Sh.noughts
 done:∀x∈l,Maps.has U (slotKey x.1 x.2)=true->Dead S x.1=false->vo c.S x.1 (2+2*x.2)=some Sh.noughts
theorem ClrI.step {c e:Stt} {l:List (Nat × Nat)} {x:Nat × Nat} (h:ClrI A S U g l c) (hs:∀d k,g.sure d k=false) (hx:x.1<A.n/\x.2<A.L) (hC:ClrStep U x c y e) :
  Ci A e.S e.o g/\(∀d,Dead e.S d=Dead S d)/\(y=0->ClrI A S U g (l++[x]) e)/\(y=0\/y=3)/\(y≠0->e.S.off≠false):=by
 obtain ⟨d,k⟩:=x
 obtain ⟨hd,hk⟩:=hx
 simp only at hd hk
 rcases hC with ⟨hu,rfl,rfl⟩ | ⟨hu,z,z',hD,rfl,ho⟩
 ·refine ⟨h.ci,h.dead,fun _=>⟨h.ci,h.dead,h.kept,fun w hw hu2 hds=>?_⟩,.inl rfl,fun e=>absurd rfl e⟩
  rcases List.mem_append.1 hw with hw | hw
  ·exact h.done w hw hu2 hds
  ·rw [List.mem_singleton.1 hw] at hu2
   rw [hu] at hu2;cases hu2
 ·simp only at hu hD ho
  by_cases hda:Dead c.S d=true
  ·-- a dead disk: nothing is done
   have hwn:Sh.why c.S d≠0:=fun e2=>by
    have h1:=hda
    unfold Dead dk at h1
    unfold Sh.why at e2
    rw [h1] at e2
    by_cases ho:c.S.off=true
    ·rw [if_pos ho] at e2;exact absurd e2 (by decide)
    ·rw [if_neg ho,if_pos rfl] at e2;exact absurd e2 (by decide)
   rcases hD with ⟨_,rfl,rfl,hS⟩ | ⟨hw0,_⟩
   ·have he:e=c:=by
     obtain ⟨eS,eo⟩:=e
     obtain ⟨cS,co⟩:=c
     simp only at hS ho
     rw [hS,ho,put1_same]
    subst he
    have hy:bd (Sh.why e.S d)=0\/(bd (Sh.why e.S d)=3/\e.S.off≠false):=by
     by_cases ho:e.S.off=false
     ·rw [dead_why hda ho];exact .inl rfl
     ·rw [off_why ho];exact .inr ⟨rfl,ho⟩
    refine ⟨h.ci,h.dead,fun _=>⟨h.ci,h.dead,h.kept,fun w hw hu2 hds=>?_⟩,hy.imp id And.left,fun e2=>hy.elim (fun e3=>absurd e3 e2) And.right⟩
    rcases List.mem_append.1 hw with hw | hw
    ·exact h.done w hw hu2 hds
    ·rw [List.mem_singleton.1 hw] at hds
     rw [<- h.dead,hda] at hds;cases hds
   ·exact absurd hw0 hwn
  ·have hda:Dead c.S d=false:=by simpa using hda
   have hfit:=h.ci.fit
   have hkb:2+2*k<blk c.S.sectors:=by omega
   have hpd:=fun hon=>(h.ci.disk d hd hda).now hon
   obtain ⟨q1,q2,q3,q4,q5,q6,q7,q8⟩:=h.ci.dw (g':=g) hd hda hkb Sh.noughts_sec (fun hon=>noBlank_good ((hpd hon).slot k hk).head _) hD (fun _ _ _ hc=>hc) (fun hon=>⟨fun st hst m hm hn=>by
     have e1:updO (vo c.S d) (2+2*k) (some Sh.noughts) (A.at st)=vo c.S d (A.at st):=if_neg (by unfold Ar.at;omega)
     rw [e1]
     exact (hpd hon).blk st hst m hm hn,fun k' hk'=>by
     have e2:updO (vo c.S d) (2+2*k) (some Sh.noughts) (3+2*k')=vo c.S d (3+2*k'):=if_neg (by omega)
     rw [e2]
     by_cases hkk:k'=k
     ·subst hkk
      have e1:updO (vo c.S d) (2+2*k') (some Sh.noughts) (2+2*k')=some Sh.noughts:=if_pos rfl
      rw [e1]
      rcases (hpd hon).slot k' hk' with e | ⟨st,dm,e3,_⟩
      ·exact .inl ⟨e.1,rfl⟩
      ·exact .inr ⟨st,dm,e3,.inl ⟨hs d k',rfl⟩⟩
     ·have e1:updO (vo c.S d) (2+2*k) (some Sh.noughts) (2+2*k')=vo c.S d (2+2*k'):=if_neg (by omega)
      rw [e1]
      exact (hpd hon).slot k' hk',fun k' hk'=>by
     have e2:updO (vo c.S d) (2+2*k) (some Sh.noughts) (3+2*k')=vo c.S d (3+2*k'):=if_neg (by omega)
     rw [e2]
     exact (hpd hon).part k' hk',by
     have e1:∀j,j<2->updO (vo c.S d) (2+2*k) (some Sh.noughts) j=vo c.S d j:=fun j hj=>if_neg (by omega)
     rw [e1 0 (by decide),e1 1 (by decide)]
     exact (hpd hon).said⟩) h.ci.ok (fun _ _ e=>e) h.ci.rc
   have hbd:bd z=z:=by rcases q5 with e | e<;>rw [e]<;>rfl
   have hqd:∀d,Dead e.S d=Dead S d:=fun d=>(q7 d).trans (h.dead d)
   rw [hbd,ho]
   refine ⟨q1,hqd,fun e0=>⟨by rw [ho];exact q1,hqd,fun d' hd' hds j=>?_,fun w hw hu2 hds=>?_⟩,q5,fun e0 e1=>e0 (q3 e1).1⟩
   ·by_cases c1:d'=d
    ·subst c1
     rw [q2 e0]
     by_cases c2:j=2+2*k
     ·subst c2
      exact .inr ⟨⟨k,hk,rfl⟩,if_pos rfl⟩
     ·have e1:updO (vo c.S d') (2+2*k) (some Sh.noughts) j=vo c.S d' j:=if_neg c2
      rw [e1]
      exact h.kept d' hd' hds j
    ·rw [q8 d' c1]
     exact h.kept d' hd' hds j
   ·rcases List.mem_append.1 hw with hw | hw
    ·have:=h.done w hw hu2 hds
     by_cases c1:w.1=d
     ·rw [c1] at this ⊢
      rw [q2 e0]
      by_cases c2:2+2*w.2=2+2*k
      ·exact if_pos c2
      ·exact (if_neg c2:updO (vo c.S d) (2+2*k) (some Sh.noughts) (2+2*w.2)=_).trans this
     ·rw [q8 _ c1];exact this
    ·rw [List.mem_singleton.1 hw]
     show vo e.S d (2+2*k)=_
     rw [q2 e0]
     exact if_pos rfl
theorem ClrI.steps {c0 e:Stt} {l:List (Nat × Nat)} (hC:ClrSteps U l c0 e) (h0:ClrI A S U g [] c0) (hs:∀d k,g.sure d k=false) (hl:∀x∈l,x.1<A.n/\x.2<A.L):ClrI A S U g l e:=by
 induction hC with
 | nil=>exact h0
 | snoc h1 h2 ih =>
  have i:=ih h0 fun x hx=>hl x (List.mem_append_left _ hx)
  exact (i.step hs (hl _ (List.mem_append_right _ (List.mem_singleton.2 rfl))) h2).2.2.1 rfl
theorem Fi.flush {D' U':Set0} {e:Stt} (h:Fi A S o g U) (hF:FlR A.n A.L D U S y e D' U') :
  (∀d,Dead e.S d=Dead S d)/\((y=0/\D'=noSet/\U'=noSet/\Ci A e.S e.o g.closed/\(e.S.off=false->Oi A e.S e.o g.closed noSet noSet)) \/
  (y=3/\e.S.off≠false/\∃g',Gle g' g/\Ci A e.S e.o g')):=by
 have hp:=fun d hd ha=>h.shutPd (d:=d) hd ha
 have last:∀{T:Sh.Sf} {o':Nat->Int},Ci A T o' g.closed->(∀d,Dead T d=Dead S d)->(∀d,d<A.n->Dead S d=false->∀st,st<A.St->vo T d (A.at st)=vo S d (A.at st))->T.off=false->Oi A T o' g.closed noSet noSet:=by
  intro T o' hc hdd hv hon
  refine ⟨⟨hc,hon,fun st hst m hm=>?_,fun _ _ _ _ e=>absurd rfl e⟩,fun _ _ e=>absurd rfl e,fun _ _ _ _ e=>by cases e⟩
  have hn:=h.now st hst m hm
  cases hda:Dead S (A.num st m)
  ·rw [seen_alive ((hdd _).trans hda) hon,hv _ (h.ci.ar.num st m hm) hda st hst]
   rw [seen_alive hda h.on] at hn
   exact hn
  ·rw [seen_dead ((hdd _).trans hda)]
   rw [seen_dead hda] at hn
   exact hn
 have hz:∀d,d<A.n->Dead S d=false->∀k,k<A.L->g.sl d k=none->vo S d (2+2*k)=some Sh.noughts:=fun d hd ha k hk e=>by
  rcases (hp d hd ha).slot k hk with e1 | ⟨st,dm,e1,_⟩
  ·exact e1.2
  ·have e1:g.sl d k=some (st,dm):=e1
   rw [e] at e1;cases e1
 cases hF with
 | first o' h0 =>
  obtain ⟨q1,q2,q3,q4⟩:=h.ci.flushOff h0 o'
  exact ⟨q4,.inr ⟨q2,q3,g,Gle.refl g,q1⟩⟩
 | none o' h0 hu =>
  obtain ⟨q1,q2,q3⟩:=h.ci.flushed h.ci.ok.closed (g':=g.closed) rfl (fun _ _ e=>by cases e) (fun d hd ha=>⟨fun st hst m hm hn=>(hp d hd ha).blk st hst m hm hn,fun k hk=>.inl ⟨rfl,hz d hd ha k hk (by
   cases hsl:g.sl d k with
   | none=>rfl
   | some x =>
    have:=h.used d k hd hk (by rw [hsl];simp)
    rw [has_none hu] at this;cases this)⟩,(hp d hd ha).part,(hp d hd ha).said⟩) h0 o'
  exact ⟨q3,.inl ⟨rfl,rfl,rfl,q1,last q1 q3 fun d hd ha st hst=>by rw [q2 d hd ha]⟩⟩
 | slots o1 y e h0 hu hC hy =>
  obtain ⟨q1,q2,q3⟩:=h.ci.flushed h.ci.ok.shut (g':=g.shut) rfl (fun _ _ e=>by cases e) hp h0 o1
  have i0:ClrI A S U g.shut [] ⟨(fdS S A.n).1,o1⟩:=⟨q1,q3,fun d hd ha j=>.inl (by rw [q2 d hd ha]),fun _ hx=>by cases hx⟩
  rcases hC with ⟨hy0,_⟩ | ⟨_,j,k,c,hj,hk,hs,hst⟩
  ·exact absurd hy0 hy
  ·have i1:=ClrI.steps hs i0 (fun _ _=>rfl) fun x hx=>slotsTo_lt hj (Nat.le_of_lt hk) hx
   obtain ⟨r1,r2,_,r4,r5⟩:=i1.step (fun _ _=>rfl) ⟨hj,hk⟩ hst
   exact ⟨r2,.inr ⟨r4.elim (fun e=>absurd e hy) id,r5 hy,g.shut,gle_shut g,r1⟩⟩
 | again o1 o' e h0 hu hC hy =>
  obtain ⟨q1,q2,q3⟩:=h.ci.flushed h.ci.ok.shut (g':=g.shut) rfl (fun _ _ e=>by cases e) hp h0 o1
  have i0:ClrI A S U g.shut [] ⟨(fdS S A.n).1,o1⟩:=⟨q1,q3,fun d hd ha j=>.inl (by rw [q2 d hd ha]),fun _ hx=>by cases hx⟩
  rcases hC with ⟨_,hs⟩ | ⟨hy0,_⟩
  ·have i1:=ClrI.steps hs i0 (fun _ _=>rfl) fun x hx=>slotsTo_all hx
   by_cases hon:e.S.off=false
   ·obtain ⟨r1,r2,r3,r4⟩:=i1.ci.flushOff hy o'
    exact ⟨fun d=>(r4 d).trans (i1.dead d),.inr ⟨r2,r3,g.shut,gle_shut g,r1⟩⟩
   ·rw [fdS_off hon h.ci.n1]
    have hc:Ci A e.S o' g.shut:=⟨i1.ci.ar,i1.ci.ok,fun d h1 h2=>(i1.ci.disk d h1 h2).off_any hon _,i1.ci.dead,i1.ci.rc,i1.ci.len,i1.ci.fit,i1.ci.sec⟩
    exact ⟨i1.dead,.inr ⟨rfl,hon,g.shut,gle_shut g,hc⟩⟩
  ·exact absurd rfl hy0
 | all o1 o' e h0 hu hC hy =>
  obtain ⟨q1,q2,q3⟩:=h.ci.flushed h.ci.ok.shut (g':=g.shut) rfl (fun _ _ e=>by cases e) hp h0 o1
  have i0:ClrI A S U g.shut [] ⟨(fdS S A.n).1,o1⟩:=⟨q1,q3,fun d hd ha j=>.inl (by rw [q2 d hd ha]),fun _ hx=>by cases hx⟩
  rcases hC with ⟨_,hs⟩ | ⟨hy0,_⟩
  ·have i1:=ClrI.steps hs i0 (fun _ _=>rfl) fun x hx=>slotsTo_all hx
   have hon:e.S.off=false:=by
    by_cases c:e.S.off=false
    ·exact c
    ·rw [fdS_off c h.ci.n1] at hy
     exact absurd hy (show ¬(3:Int)=0 by decide)
   have hblk:∀d,d<A.n->Dead S d=false->∀j,(∀k,k<A.L->j≠2+2*k)->vo e.S d j=vo S d j:=fun d hd ha j hj=>(i1.kept d hd ha j).elim id fun ⟨⟨k,hk,e⟩,_⟩=>absurd e (hj k hk)
   obtain ⟨r1,r2,r3⟩:=i1.ci.flushed h.ci.ok.closed (g':=g.closed) rfl (fun _ _ e=>by cases e) (fun d hd ha2=>by
    have ha:Dead S d=false:=by rw [<- i1.dead];exact ha2
    refine ⟨fun st hst m hm hn=>?_,fun k hk=>.inl ⟨rfl,?_⟩,fun k hk=>?_,?_⟩
    ·rw [hblk d hd ha _ (fun k hk=>by unfold Ar.at;omega)]
     exact (hp d hd ha).blk st hst m hm hn
    ·by_cases hus:Maps.has U (slotKey d k)=true
     ·exact i1.done (d,k) (mem_slotsTo hd hk) hus ha
     ·have hsl:g.sl d k=none:=by
       cases hsl:g.sl d k with
       | none=>rfl
       | some x=>exact absurd (h.used d k hd hk (by rw [hsl];simp)) hus
      exact (i1.kept d hd ha (2+2*k)).elim (fun e=>by rw [e];exact hz d hd ha k hk hsl) And.right
    ·rw [hblk d hd ha _ (fun k' _=>by omega)]
     exact (hp d hd ha).part k hk
    ·rw [hblk d hd ha 0 (fun k _=>by omega),hblk d hd ha 1 (fun k _=>by omega)]
     exact (hp d hd ha).said) hy o'
   exact ⟨fun d=>(r3 d).trans (i1.dead d),.inl ⟨rfl,rfl,rfl,r1,last r1 (fun d=>(r3 d).trans (i1.dead d)) fun d hd ha st hst=>by
    rw [r2 d hd ((i1.dead d).trans ha)]
    exact hblk d hd ha _ (fun k hk=>by unfold Ar.at;omega)⟩⟩
  ·exact absurd rfl hy0
end
section
variable {B:Nat} {W w w':World} {g a p d n:Nat} {o:Int} {S S':Sh.Sf} {F:Nat->Prop}
end
section
variable {J:Vk} {w w':World} {s:SuP} {o:Nat->Int} {S:Sh.Sf} {F:Nat->Prop} {D U:Set0} {M St:Nat}
end
section
variable {J:Vk} {w w':World} {s:SuP} {o:Nat->Int} {S:Sh.Sf} {F:Nat->Prop} {D U:Set0} {M St:Nat}
end
section
variable {J:Vk} {w w':World} {s:SuP} {o:Nat->Int} {S:Sh.Sf} {F:Nat->Prop} {D U:Set0} {M St:Nat}
end
section
variable {LL M St d k m:Nat} {s:SuP} {U U':Set0} {S:Sh.Sf} {o:Nat->Int} {y:Int} {t:Stt}
end
section
variable {J:Vk} {w w':World} {s:SuP} {o:Nat->Int} {S:Sh.Sf} {F:Nat->Prop} {D U:Set0} {M St:Nat}
end
def SayB (S:Sh.Sf) (d b:Nat) (x:SuP):Prop:=x.disk=(d:Int)/\x.gen%2=(b:Int)/\Fit S.disks.length x/\2+2*x.logs.toNat+x.str.toNat<=blk S.sectors
instance (S:Sh.Sf) (d b:Nat) (x:SuP):Decidable (SayB S d b x):=by unfold SayB Fit;exact inferInstance
section
variable {B:Nat} {W w w':World} {v p t n mo mu:Nat} {s:SuP} {base:Int} {a:Nat->Nat} {o:Nat->Int} {g:Nat->Option Addr} {S S':Sh.Sf} {F:Nat->Prop}
end
section
variable {B:Nat} {W w w':World} {v p t n mo mu:Nat} {s:SuP} {base:Int} {a:Nat->Nat} {o:Nat->Int} {g:Nat->Option Addr} {S S':Sh.Sf} {F:Nat->Prop}
end
section
variable {S S':Sh.Sf} {d k:Nat} {o y o':Int} {b:Sh.Bs}
end
section
variable {B:Nat} {W w:World} {a p d:Nat} {o:Int} {S:Sh.Sf} {F:Nat->Prop}
end
section
variable {B:Nat} {W w w':World} {v p t n mo mu q:Nat} {s x:SuP} {base:Int} {a:Nat->Nat} {o:Nat->Int} {g:Nat->Option Addr} {S S':Sh.Sf} {F:Nat->Prop}
end
section
variable {B:Nat} {W w w':World} {v p t n mo mu:Nat} {s:SuP} {base:Int} {a:Nat->Nat} {o:Nat->Int} {g:Nat->Option Addr} {S S':Sh.Sf} {F:Nat->Prop}
end
end Go.Proofs.YtcnjpmcelihknaaGreatDoor.U
