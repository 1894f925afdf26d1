/-
  What the statement's proof rests on, part 36.
  Conditions: each theorem's own.
-/
import Derived.Test.YthhldceidmphfaaGreatDoorF35
import Derived.Deep.AppendSrc
import Derived.Deep.AppendLies
import Derived.Deep.MidRow
import Derived.Test.YthhldceidmphfaaGreatDoorF32
namespace Go.Proofs.YthhldceidmphfaaGreatDoor.Sh
open Go.ChangeShapes Go.WideShapes Go.ChangeAt Go.RowKit Go.Maps
section
variable {H:Type} {enc:TypeId × Value→H} {W:World}
theorem cellsInt:Tryz.prog.cellsOf 3=1:=by kernel_rfl
theorem cellsInts:Tryz.prog.cellsOf 24=1:=by kernel_rfl
theorem cells_get {base n:Nat} {a:Addr} {xs:List Value} (h:W.cells? base a n=some xs):xs.length=n∧∀k,k<n→∃v,xs[k]?=some v∧W.cell? (a.add k)=some v:=by
 unfold World.cells? at h
 split at h
 ·have hl:xs.length=n:=by simpa using mapM_some_length h
  refine ⟨hl,fun k hk=>?_⟩
  have:=mapM_some_get h k k (by simp [hk])
  rw [List.getElem?_eq_getElem (by omega)] at this
  exact ⟨_,List.getElem?_eq_getElem (by omega),this⟩
 ·cases h
theorem int_of {m:Nat} {v:Value} {y:DataW H × List MemPlace} (h:DataW.trod enc Tryz.prog W 0 (fun _=>true) true m 3 [v]=some y):∃z:Int,v=.int .i64 z∧-9223372036854775808≤z∧z≤9223372036854775807:=by
 cases m with
 | zero=>simp [DataW.trod] at h
 | succ m =>
  simp only [DataW.trod,Tryz.underlying3] at h
  cases v<;>simp at h
  rename_i k b
  obtain ⟨⟨rfl,hw⟩,_⟩:=h
  exact ⟨b,rfl,bounds_i64 hw⟩
theorem u8_of {m:Nat} {v:Value} {y:DataW H × List MemPlace} (h:DataW.trod enc Tryz.prog W 0 (fun _=>true) true m 5 [v]=some y):∃z:Nat,v=.int .u8 (z:Int)∧z<256:=by
 cases m with
 | zero=>simp [DataW.trod] at h
 | succ m =>
  simp only [DataW.trod,Tryz.underlying5] at h
  cases v<;>simp at h
  rename_i k b
  obtain ⟨⟨rfl,hw⟩,_⟩:=h
  have:=bounds_u8 hw
  exact ⟨b.toNat,by rw [Int.toNat_of_nonneg this.1],by omega⟩
theorem each_in {t e:TypeId} {fuel n c:Nat} {A:Option Addr} {x:DataW H × List MemPlace} (ht:Tryz.prog.underlying t=some (.slice e)) (hc:Tryz.prog.cellsOf e=1)
  (h:DataW.trod enc Tryz.prog W 0 (fun _=>true) true fuel t [.slice A n c]=some x) :
  (A=none∧n=0)∨∃(ad:Addr) (m:Nat),A=some ad∧n≤9223372036854775807∧∀i,i<n→∃v y,W.cell? (ad.add i)=some v∧DataW.trod enc Tryz.prog W 0 (fun _=>true) true m e [v]=some y:=by
 rcases DataW.trod_slice ht h with ⟨h0,hx⟩ | ⟨a,len,cap,elems,rest,m,_,h0,hx,_,hl,hm,hlen,hel,_⟩
 ·simp only [List.cons.injEq,Value.slice.injEq,and_true] at h0
  obtain ⟨rfl,rfl,rfl⟩:=h0
  exact .inl ⟨rfl,rfl⟩
 ·simp only [List.cons.injEq,Value.slice.injEq,and_true] at h0
  obtain ⟨rfl,rfl,rfl⟩:=h0
  refine .inr ⟨a,m,rfl,by unfold maxLen at hm;omega,fun i hi=>?_⟩
  have h1:=hel i hi
  rw [hc,Nat.mul_one,List.getElem?_eq_getElem (by omega),Option.bind_eq_some_iff] at h1
  obtain ⟨cs,hcs,hy⟩:=h1
  obtain ⟨hl1,hg⟩:=cells_get hcs
  obtain ⟨v,hv,hcv⟩:=hg 0 (by decide)
  have e:cs=[v]:=by
   match cs,hl1,hv with
   | [u],_,hv=>simpa using hv
  subst e
  have e2:(a.add i).add 0=a.add i:=by unfold Addr.add;simp
  rw [e2] at hcv
  exact ⟨v,_,hcv,hy⟩
theorem ints_in {fuel n c:Nat} {A:Option Addr} {x:DataW H × List MemPlace} (h:DataW.trod enc Tryz.prog W 0 (fun _=>true) true fuel 24 [.slice A n c]=some x) :
  ∃l:List Int,n≤9223372036854775807∧Reads W W.heap.size A n (ints l)∧(0<n→∀a,A=some a→a.block<W.heap.size):=by
 rcases each_in Tryz.underlying24 cellsInt h with ⟨rfl,rfl⟩ | ⟨ad,m,rfl,hn,hel⟩
 ·exact ⟨[],by decide,Reads.none_,fun h=>absurd h (by decide)⟩
 ·have hz:∀i,∃z:Int,i<n→W.cell? (ad.add i)=some (.int .i64 z):=by
   intro i
   by_cases hi:i<n
   ·obtain ⟨v,y,hv,hy⟩:=hel i hi
    obtain ⟨z,rfl,_⟩:=int_of hy
    exact ⟨z,fun _=>hv⟩
   ·exact ⟨0,fun h=>absurd h hi⟩
  obtain ⟨f,hf⟩:=Classical.axiomOfChoice hz
  have hb:0<n→ad.block<W.heap.size:=fun h0=>by
   have:=World.block_lt_of_cell? W _ (hf 0 h0)
   rwa [block_of_add] at this
  refine ⟨(List.range n).map f,hn,⟨by simp [ints],fun h0=>⟨ad,rfl,hb h0,fun j u hu=>?_⟩⟩,fun h0 a ha=>by injection ha with ha;subst ha;exact hb h0⟩
  have hj:j<n:=by
   rcases Nat.lt_or_ge j n with h | h
   ·exact h
   ·rw [List.getElem?_eq_none (by simpa [ints] using h)] at hu;cases hu
  rw [hf j hj,← hu]
  simp [ints,hj]
theorem keep_in {fuel n c:Nat} {A:Option Addr} {x:DataW H × List MemPlace} (h:DataW.trod enc Tryz.prog W 0 (fun _=>true) true fuel 26 [.slice A n c]=some x) :
  ∃ks:List (List Int),n≤9223372036854775807∧KeepIs W (Old W) A n ks:=by
 rcases each_in Tryz.underlying26 cellsInts h with ⟨rfl,rfl⟩ | ⟨ad,m,rfl,hn,hel⟩
 ·exact ⟨[],by decide,rfl,fun h=>absurd h (by decide)⟩
 ·have hz:∀i,∃l:List Int,i<n→∃A' m c,W.cell? (ad.add i)=some (.slice A' m c)∧m≤9223372036854775807∧Reads W W.heap.size A' m (ints l)∧(0<m→∀a',A'=some a'→Old W a'.block):=by
   intro i
   by_cases hi:i<n
   ·obtain ⟨v,y,hv,hy⟩:=hel i hi
    obtain ⟨A',n',c',rfl⟩:∃A' n' c',v=.slice A' n' c':=by
     rcases DataW.trod_slice Tryz.underlying24 hy with ⟨h0,_⟩ | ⟨a,len,cap,_,_,_,_,h0,_⟩
     ·simp only [List.cons.injEq,and_true] at h0;exact ⟨_,_,_,h0⟩
     ·simp only [List.cons.injEq,and_true] at h0;exact ⟨_,_,_,h0⟩
    obtain ⟨l,h1,h2,h3⟩:=ints_in hy
    exact ⟨l,fun _=>⟨A',n',c',hv,h1,h2,h3⟩⟩
   ·exact ⟨[],fun h=>absurd h hi⟩
  obtain ⟨f,hf⟩:=Classical.axiomOfChoice hz
  refine ⟨(List.range n).map f,hn,by simp,fun h0=>⟨ad,rfl,?_,fun j hj=>?_⟩⟩
  ·obtain ⟨_,_,_,h1,_⟩:=hf 0 h0
   have:=World.block_lt_of_cell? W _ h1
   rwa [block_of_add] at this
  ·have e:((List.range n).map f).getD j []=f j:=by simp [List.getD,hj]
   rw [e]
   exact hf j hj
theorem cellsOp8:Tryz.prog.cellsOf 31=5:=by kernel_rfl
structure Op8 where
 kind:Int
 n:Int
 at_:Int
 x:Nat
 A:Option Addr
 m:Nat
 c:Nat
 ks:List (List Int)
def I64 (z:Int):Prop:=-9223372036854775808≤z∧z≤9223372036854775807
structure Op8Is (W:World) (b o:Nat) (v:Op8):Prop where
 c0:W.cell? ⟨b,o,none⟩=some (.int .i64 v.kind)
 c1:W.cell? ⟨b,o+1,none⟩=some (.int .i64 v.n)
 c2:W.cell? ⟨b,o+2,none⟩=some (.int .i64 v.at_)
 c3:W.cell? ⟨b,o+3,none⟩=some (.int .u8 (v.x:Int))
 c4:W.cell? ⟨b,o+4,none⟩=some (.slice v.A v.m v.c)
 b0:I64 v.kind
 b1:I64 v.n
 b2:I64 v.at_
 b3:v.x<256
 b4:v.m≤9223372036854775807
 keep:KeepIs W (Old W) v.A v.m v.ks
def Ops8 (W:World) (A:Option Addr) (n:Nat) (f:Nat→Op8):Prop:=n≤9223372036854775807∧(0<n→∃b off,A=some ⟨b,off,none⟩∧b<W.heap.size∧∀i,i<n→Op8Is W b (off+i*5) (f i))
set_option maxRecDepth 20000 in
theorem op_in {b o m:Nat} {cs:List Value} {y:DataW H × List MemPlace} (hl:cs.length=5) (hc:∀k,k<5→∃v,cs[k]?=some v∧W.cell? ⟨b,o+k,none⟩=some v) (h:DataW.trod enc Tryz.prog W 0 (fun _=>true) true m 31 cs=some y):∃v:Op8,Op8Is W b o v:=by
 obtain ⟨xs,k,rfl,_,_,hxs,hf⟩:=DataW.trod_struct Tryz.underlying31 h
 match cs,hl with
 | [v0,v1,v2,v3,v4],_ =>
  have hs:xs.length=5:=hxs
  have g:∀i,i<5→∃z,xs[i]?=some z:=fun i hi=>⟨_,List.getElem?_eq_getElem (by omega)⟩
  have f0:=hf 0 _ rfl
  have f1:=hf 1 _ rfl
  have f2:=hf 2 _ rfl
  have f3:=hf 3 _ rfl
  have f4:=hf 4 _ rfl
  obtain ⟨z0,e0⟩:=g 0 (by decide)
  obtain ⟨z1,e1⟩:=g 1 (by decide)
  obtain ⟨z2,e2⟩:=g 2 (by decide)
  obtain ⟨z3,e3⟩:=g 3 (by decide)
  obtain ⟨z4,e4⟩:=g 4 (by decide)
  rw [e0] at f0
  rw [e1] at f1
  rw [e2] at f2
  rw [e3] at f3
  rw [e4] at f4
  obtain ⟨kind,rfl,a0,a0'⟩:=int_of (v:=v0) (show DataW.trod enc Tryz.prog W 0 (fun _=>true) true k 3 [v0]=some z0 from f0)
  obtain ⟨n,rfl,a1,a1'⟩:=int_of (v:=v1) (show DataW.trod enc Tryz.prog W 0 (fun _=>true) true k 3 [v1]=some z1 from f1)
  obtain ⟨at_,rfl,a2,a2'⟩:=int_of (v:=v2) (show DataW.trod enc Tryz.prog W 0 (fun _=>true) true k 3 [v2]=some z2 from f2)
  obtain ⟨x,rfl,a3⟩:=u8_of (v:=v3) (show DataW.trod enc Tryz.prog W 0 (fun _=>true) true k 5 [v3]=some z3 from f3)
  have g4:=show DataW.trod enc Tryz.prog W 0 (fun _=>true) true k 26 [v4]=some z4 from f4
  obtain ⟨A',n',c',rfl⟩:∃A' n' c',v4=.slice A' n' c':=by
   rcases DataW.trod_slice Tryz.underlying26 g4 with ⟨h0,_⟩ | ⟨a,len,cap,_,_,_,_,h0,_⟩
   ·simp only [List.cons.injEq,and_true] at h0;exact ⟨_,_,_,h0⟩
   ·simp only [List.cons.injEq,and_true] at h0;exact ⟨_,_,_,h0⟩
  obtain ⟨ks,h1,h2⟩:=keep_in g4
  have cc:∀k,k<5→∀u,[Value.int .i64 kind,.int .i64 n,.int .i64 at_,.int .u8 (x:Int),.slice A' n' c'][k]?=some u→W.cell? ⟨b,o+k,none⟩=some u:=fun k hk u hu=>by
   obtain ⟨v,hv,hcv⟩:=hc k hk
   rw [hu] at hv
   injection hv with hv
   rw [hv];exact hcv
  exact ⟨⟨kind,n,at_,x,A',n',c',ks⟩,cc 0 (by decide) _ rfl,cc 1 (by decide) _ rfl,cc 2 (by decide) _ rfl,cc 3 (by decide) _ rfl,cc 4 (by decide) _ rfl,⟨a0,a0'⟩,⟨a1,a1'⟩,⟨a2,a2'⟩,a3,h1,h2⟩
theorem ops_in {fuel n c:Nat} {A:Option Addr} {x:DataW H × List MemPlace} (h:DataW.trod enc Tryz.prog W 0 (fun _=>true) true fuel 22 [.slice A n c]=some x):∃f,Ops8 W A n f:=by
 rcases DataW.trod_slice Tryz.underlying22 h with ⟨h0,hx⟩ | ⟨a,len,cap,elems,rest,m,_,h0,hx,_,hl,hm,hlen,hel,_⟩
 ·simp only [List.cons.injEq,Value.slice.injEq,and_true] at h0
  obtain ⟨rfl,rfl,rfl⟩:=h0
  exact ⟨fun _=>⟨0,0,0,0,none,0,0,[]⟩,by decide,fun h=>absurd h (by decide)⟩
 ·simp only [List.cons.injEq,Value.slice.injEq,and_true] at h0
  obtain ⟨rfl,rfl,rfl⟩:=h0
  have hcs:∀i,i<n→∃cs y,cs.length=5∧(∀k,k<5→∃v,cs[k]?=some v∧W.cell? ((a.add (i*5)).add k)=some v)∧DataW.trod enc Tryz.prog W 0 (fun _=>true) true m 31 cs=some y:=by
   intro i hi
   have h1:=hel i hi
   rw [cellsOp8,List.getElem?_eq_getElem (by omega),Option.bind_eq_some_iff] at h1
   obtain ⟨cs,hcs,hy⟩:=h1
   obtain ⟨hl1,hg⟩:=cells_get hcs
   exact ⟨cs,_,hl1,hg,hy⟩
  rcases Nat.eq_zero_or_pos n with h0 | h0
  ·exact ⟨fun _=>⟨0,0,0,0,none,0,0,[]⟩,by unfold maxLen at hm;omega,fun h=>by omega⟩
  ·obtain ⟨b,off,spot⟩:=a
   obtain ⟨cs,y,_,hg,_⟩:=hcs 0 h0
   obtain ⟨v,_,hv⟩:=hg 0 (by decide)
   have hspot:spot=none:=by simpa [Addr.add] using World.cell?_spot hv
   subst hspot
   have hblt:=World.block_lt_of_cell? W _ hv
   rw [block_of_add,block_of_add] at hblt
   have hz:∀i,∃v:Op8,i<n→Op8Is W b (off+i*5) v:=by
    intro i
    by_cases hi:i<n
    ·obtain ⟨cs,y,hl5,hg,hy⟩:=hcs i hi
     obtain ⟨v,hv⟩:=op_in (b:=b) (o:=off+i*5) hl5 (fun k hk=>by
      obtain ⟨v,h1,h2⟩:=hg k hk
      rw [add_of_add,add_plain,← Nat.add_assoc] at h2
      exact ⟨v,h1,h2⟩) hy
     exact ⟨v,fun _=>hv⟩
    ·exact ⟨⟨0,0,0,0,none,0,0,[]⟩,fun h=>absurd h hi⟩
   obtain ⟨f,hf⟩:=Classical.axiomOfChoice hz
   exact ⟨f,by unfold maxLen at hm;omega,fun _=>⟨b,off,rfl,hblt,hf⟩⟩
end
end Go.Proofs.YthhldceidmphfaaGreatDoor.Sh
namespace Go.Proofs.YthhldceidmphfaaGreatDoor.S
open Go.ChangeShapes Go.WideShapes Go.ChangeAt Go.RowKit Go.Maps
theorem cellsSup:Tryz.prog.cellsOf 65=8:=by kernel_rfl
theorem bytesSup:Tryz.prog.bytesOf 65=64:=by kernel_rfl
section
variable {H:Type} {enc:TypeId × Value→H} {W:World}
set_option maxRecDepth 20000 in
theorem sup_val {m:Nat} {cs:List Value} {y:DataW H × List MemPlace} (hl:cs.length=8) (h:DataW.trod enc Tryz.prog W 0 (fun _=>true) true m 65 cs=some y) :
  ∃s:Sup,cs=s.cells.toList∧s.fits:=by
 obtain ⟨xs,k,rfl,_,_,hxs,hf⟩:=DataW.trod_struct Tryz.underlying65 h
 match cs,hl with
 | [v0,v1,v2,v3,v4,v5,v6,v7],_ =>
  have hs:xs.length=8:=hxs
  have g:∀i,i<8→∃z,xs[i]?=some z:=fun i hi=>⟨_,List.getElem?_eq_getElem (by omega)⟩
  have f0:=hf 0 _ rfl
  have f1:=hf 1 _ rfl
  have f2:=hf 2 _ rfl
  have f3:=hf 3 _ rfl
  have f4:=hf 4 _ rfl
  have f5:=hf 5 _ rfl
  have f6:=hf 6 _ rfl
  have f7:=hf 7 _ rfl
  obtain ⟨z0,e0⟩:=g 0 (by decide)
  obtain ⟨z1,e1⟩:=g 1 (by decide)
  obtain ⟨z2,e2⟩:=g 2 (by decide)
  obtain ⟨z3,e3⟩:=g 3 (by decide)
  obtain ⟨z4,e4⟩:=g 4 (by decide)
  obtain ⟨z5,e5⟩:=g 5 (by decide)
  obtain ⟨z6,e6⟩:=g 6 (by decide)
  obtain ⟨z7,e7⟩:=g 7 (by decide)
  rw [e0] at f0
  rw [e1] at f1
  rw [e2] at f2
  rw [e3] at f3
  rw [e4] at f4
  rw [e5] at f5
  rw [e6] at f6
  rw [e7] at f7
  obtain ⟨x0,rfl,a0,b0⟩:=Sh.int_of (v:=v0) (show DataW.trod enc Tryz.prog W 0 (fun _=>true) true k 3 [v0]=some z0 from f0)
  obtain ⟨x1,rfl,a1,b1⟩:=Sh.int_of (v:=v1) (show DataW.trod enc Tryz.prog W 0 (fun _=>true) true k 3 [v1]=some z1 from f1)
  obtain ⟨x2,rfl,a2,b2⟩:=Sh.int_of (v:=v2) (show DataW.trod enc Tryz.prog W 0 (fun _=>true) true k 3 [v2]=some z2 from f2)
  obtain ⟨x3,rfl,a3,b3⟩:=Sh.int_of (v:=v3) (show DataW.trod enc Tryz.prog W 0 (fun _=>true) true k 3 [v3]=some z3 from f3)
  obtain ⟨x4,rfl,a4,b4⟩:=Sh.int_of (v:=v4) (show DataW.trod enc Tryz.prog W 0 (fun _=>true) true k 3 [v4]=some z4 from f4)
  obtain ⟨x5,rfl,a5,b5⟩:=Sh.int_of (v:=v5) (show DataW.trod enc Tryz.prog W 0 (fun _=>true) true k 3 [v5]=some z5 from f5)
  obtain ⟨x6,rfl,a6,b6⟩:=Sh.int_of (v:=v6) (show DataW.trod enc Tryz.prog W 0 (fun _=>true) true k 3 [v6]=some z6 from f6)
  obtain ⟨x7,rfl,a7,b7⟩:=Sh.int_of (v:=v7) (show DataW.trod enc Tryz.prog W 0 (fun _=>true) true k 3 [v7]=some z7 from f7)
  refine ⟨⟨x0,x1,x2,x3,x4,x5,x6,x7⟩,rfl,fun x hx=>?_⟩
  simp only [List.mem_cons,List.not_mem_nil,or_false] at hx
  rcases hx with rfl | rfl | rfl | rfl | rfl | rfl | rfl | rfl
  ·exact ⟨a0,b0⟩
  ·exact ⟨a1,b1⟩
  ·exact ⟨a2,b2⟩
  ·exact ⟨a3,b3⟩
  ·exact ⟨a4,b4⟩
  ·exact ⟨a5,b5⟩
  ·exact ⟨a6,b6⟩
  ·exact ⟨a7,b7⟩
set_option maxRecDepth 20000 in
set_option maxRecDepth 20000 in
theorem sups_in {fuel n c:Nat} {A:Option Addr} {x:DataW H × List MemPlace} (h:DataW.trod enc Tryz.prog W 0 (fun _=>true) true fuel 60 [.slice A n c]=some x)
  (hw:∀k∈x.1.weights Tryz.prog 60,k≤reachBytes):∃ss,SupsAre W W.heap.size A n ss∧n*64≤140737488351232:=by
 rcases DataW.trod_slice Tryz.underlying60 h with ⟨h0,hx⟩ | ⟨a,len,cap,elems,rest,m,_,h0,hx,_,hl,hm,hlen,hel,_⟩
 ·simp only [List.cons.injEq,Value.slice.injEq,and_true] at h0
  obtain ⟨rfl,rfl,rfl⟩:=h0
  exact ⟨[],⟨rfl,fun h=>absurd h (by decide)⟩,by decide⟩
 ·simp only [List.cons.injEq,Value.slice.injEq,and_true] at h0
  obtain ⟨rfl,rfl,rfl⟩:=h0
  have hbd:n*64≤140737488351232:=by
   rw [hx] at hw
   have h1:=hw ((elems.map (·.1)).length*64+(rest.map (·.1)).length*64) (by simp [DataW.weights,Tryz.underlying60,bytesSup,Nat.add_mul])
   simp only [List.length_map,hlen,reachBytes] at h1
   omega
  have hcs:∀i,i<n→∃cs y,cs.length=8∧(∀k,k<8→∃v,cs[k]?=some v∧W.cell? ((a.add (i*8)).add k)=some v)∧DataW.trod enc Tryz.prog W 0 (fun _=>true) true m 65 cs=some y:=by
   intro i hi
   have h1:=hel i hi
   rw [cellsSup,List.getElem?_eq_getElem (by omega),Option.bind_eq_some_iff] at h1
   obtain ⟨cs,hcs,hy⟩:=h1
   obtain ⟨hl1,hg⟩:=Sh.cells_get hcs
   exact ⟨cs,_,hl1,hg,hy⟩
  rcases Nat.eq_zero_or_pos n with h0 | h0
  ·subst h0
   exact ⟨[],⟨rfl,fun h=>absurd h (by decide)⟩,by decide⟩
  ·obtain ⟨b,off,spot⟩:=a
   obtain ⟨cs,y,_,hg,_⟩:=hcs 0 h0
   obtain ⟨v,_,hv⟩:=hg 0 (by decide)
   have hspot:spot=none:=by simpa [Addr.add] using World.cell?_spot hv
   subst hspot
   have hblt:=World.block_lt_of_cell? W _ hv
   rw [block_of_add,block_of_add] at hblt
   have hz:∀i,∃s:Sup,i<n→∀j v,s.cells[j]?=some v→W.cell? ⟨b,off+i*8+j,none⟩=some v:=by
    intro i
    by_cases hi:i<n
    ·obtain ⟨cs,y,hl6,hg,hy⟩:=hcs i hi
     obtain ⟨s,rfl,_⟩:=sup_val hl6 hy
     refine ⟨s,fun _ j v hv=>?_⟩
     have hj:j<8:=(Array.getElem?_eq_some_iff.1 hv).1
     obtain ⟨u,h1,h2⟩:=hg j hj
     rw [add_of_add,add_plain,← Nat.add_assoc] at h2
     rw [Array.getElem?_toList,hv] at h1
     injection h1 with h1
     rw [h1];exact h2
    ·exact ⟨sup0,fun h=>absurd h hi⟩
   obtain ⟨f,hf⟩:=Classical.axiomOfChoice hz
   refine ⟨(List.range n).map f,⟨by simp,fun _=>⟨b,off,rfl,hblt,fun i s hs=>?_⟩⟩,hbd⟩
   have hi:i<n:=by have:=(List.getElem?_eq_some_iff.1 hs).1;simpa using this
   have e:s=f i:=by simpa [hi] using hs.symm
   rw [e]
   exact hf i hi
end
end Go.Proofs.YthhldceidmphfaaGreatDoor.S
namespace Go.Proofs.YthhldceidmphfaaGreatDoor.U
open Go.RowKit Go.Maps
section
variable {S:Sh.Sf} {o:Nat→Int} {D U D' U':Set0} {y:Int} {x X:Sh.Bs} {t e:Stt} {m:Nat}
theorem waits_same {S T:Sh.Sf} (h:Same S T) (hL:∀x∈S.disks,x.waits.length≤m):∀x∈T.disks,x.waits.length≤m:=by rw [h.disks];exact hL
theorem waits_more {T:Sh.Sf} {a b:Nat} (hab:a≤b) (hL:∀x∈T.disks,x.waits.length≤a):∀x∈T.disks,x.waits.length≤b:=fun x hx=>Nat.le_trans (hL x hx) hab
theorem RdT.waits {s:Go.Proofs.YthhldceidmphfaaGreatDoor.S.Sup} {M k st me:Nat} (h:RdT s M k st me S o y X t) (hL:∀x∈S.disks,x.waits.length≤m):∀x∈t.S.disks,x.waits.length≤m+3:=by
 have hs:Same S (shouldR s M k st me S).1:=((Same.refl S).looked _).trans (tog_same M)
 cases h with
 | plain _=>exact waits_more (Nat.le_add_right _ _) (waits_same ((Same.refl S).looked _) hL)
 | lack _ _=>exact waits_more (Nat.le_add_right _ _) (waits_same hs hL)
 | dead _ _=>exact waits_more (Nat.le_add_right _ _) (waits_same hs hL)
 | bad z x S2 _ _ hD _=>exact hD.waits (waits_same hs hL)
 | mend x S2 _ _ hD=>exact hD.waits (waits_same hs hL)
theorem RdR.waits {LL M St:Nat} {s:Go.Proofs.YthhldceidmphfaaGreatDoor.S.Sup} {n:Int} (h:RdR LL s M St n S o y X t) (hL:∀x∈S.disks,x.waits.length≤m):∀x∈t.S.disks,x.waits.length≤m+3:=by
 cases h with
 | refused _=>exact waits_more (Nat.le_add_right _ _) hL
 | there m' y X t _ _ _ hT=>exact hT.waits hL
end
section
variable {S S':Sh.Sf} {o:Nat→Int} {may:Nat→List Sh.Bs} {kd:Bool} {y:Int} {t:Stt} {m n:Nat}
theorem RplR.waits {LL M St:Nat} {s:Go.Proofs.YthhldceidmphfaaGreatDoor.S.Sup} {a b:Stt} {U U':Set0} (hn:n≤17) (h8:LL≤8) (h:RplR n LL s M St a U y b U') (hL:∀x∈a.S.disks,x.waits.length≤m):∀x∈b.S.disks,x.waits.length≤m+500:=by
 have h1:n*LL≤17*8:=Nat.mul_le_mul hn h8
 rcases h with ⟨_,hs⟩ | ⟨_,j,k,c,U1,hj,hk,hs,hr⟩
 ·have:=hs.waits hL
  rw [slotsTo_length] at this
  exact waits_more (by omega) this
 ·have:=hr.waits (hs.waits hL)
  rw [slotsTo_length] at this
  have h2:(j+1)*LL≤17*8:=Nat.mul_le_mul (by omega) h8
  rw [Nat.succ_mul] at h2
  exact waits_more (by omega) this
theorem OpenR.waits (hn:n≤17) (h8':S.off=false→(newestOf (sayTo S n 0)).logs.toNat≤8) (h:OpenR n S y t) (hL:∀x∈S.disks,x.waits.length≤m):∀x∈t.S.disks,x.waits.length≤m+2000:=by
 cases h with
 | off _=>exact waits_more (by omega) hL
 | none S1 _ hs _=>exact waits_more (by omega) (waits_same hs hL)
 | agree S1 y b _ hs _ hr _=>exact waits_more (by omega) (hr.waits (a:=⟨S1,fun _=>-1⟩) hn (waits_same hs hL))
 | replay S1 b y t U hon hs _ hr hp _ =>
  have h8:=h8' hon
  exact waits_more (by omega) (RplR.waits hn h8 hp (hr.waits (a:=⟨S1,fun _=>-1⟩) hn (waits_same hs hL)))
 | flush S1 b t U y e D' U' hon hs _ hr hp hf =>
  have h8:=h8' hon
  exact waits_more (by omega) (hf.waits hn h8 (RplR.waits hn h8 hp (hr.waits (a:=⟨S1,fun _=>-1⟩) hn (waits_same hs hL))))
end
open Go.ChangeShapes Go.WideShapes Go.ChangeAt
section
variable {J:Vk} {w:World} {r m lb:Nat} {S:Sh.Sf} {o:Nat→Int} {D U:Set0} {F:Nat→Prop} {kd:Bool} {may:Nat→List Sh.Bs}
structure Tbl (B:Nat) (W:World):Prop where
 tabs:Tabs W
 tb:max 1 2+1≤B
 wid:Go.Proofs.YthhldceidmphfaaGreatDoor.S.Wid W
 wb:0+1≤B
 flds:Flds W
 fb:4+1≤B
 lay:Go.Proofs.YthhldceidmphfaaGreatDoor.L.Tab W
 pb:3+1≤B
end
def Fo (W:World) (p n m:Nat) (w:World):Prop:=∃S F,Sh.At W.heap.size W w p S F∧Al S∧S.disks.length=n∧S.sectors=40∧∀x∈S.disks,x.waits.length≤m
def FoV (W:World) (n m:Nat) (J:Vk) (s:Go.Proofs.YthhldceidmphfaaGreatDoor.S.Sup) (M St:Nat) (w:World):Prop :=
 ∃S o F,J.B=W.heap.size∧J.W=W∧J.n=n∧Vr J w s o S F noSet noSet∧Fits J.n J.L s M St S∧Al S∧∀x∈S.disks,x.waits.length≤m
section
variable {W w w':World} {p n m:Nat} {J:Vk} {s:Go.Proofs.YthhldceidmphfaaGreatDoor.S.Sup} {M St:Nat}
theorem All.tblF {W:World} (h:All W):Tbl W.heap.size W:=⟨h.tabs,h.tabs.size,h.wid,h.wid.size,h.fld,h.fld.size,h.lay,h.lay.size⟩
theorem Fo.bel (h:Fo W p n m w):Below W.heap.size W w∧W.heap.size≤w.heap.size:=by
 obtain ⟨S,F,a,_⟩:=h
 exact ⟨a.bel,a.size⟩
theorem Fo.grown (h:Fo W p n m w) (hb:Below w.heap.size w w'):Fo W p n m w':=by
 obtain ⟨S,F,a,rest⟩:=h
 exact ⟨S,F,a.grown hb,rest⟩
theorem Fo.more {m':Nat} (h:Fo W p n m w) (hm:m≤m'):Fo W p n m' w:=by
 obtain ⟨S,F,a,e1,e2,e3,e4⟩:=h
 exact ⟨S,F,a,e1,e2,e3,fun x hx=>Nat.le_trans (e4 x hx) hm⟩
theorem FoV.bel (h:FoV W n m J s M St w):Below W.heap.size W w∧W.heap.size≤w.heap.size:=by
 obtain ⟨S,o,F,e1,e2,_,V,_⟩:=h
 have:=V.bel
 have:=V.size
 rw [e1] at *
 rw [e2] at *
 exact ⟨by assumption,by assumption⟩
theorem FoV.grown (h:FoV W n m J s M St w) (hb:Below w.heap.size w w'):FoV W n m J s M St w':=by
 obtain ⟨S,o,F,e1,e2,e3,V,rest⟩:=h
 exact ⟨S,o,F,e1,e2,e3,V.grown hb,rest⟩
theorem FoV.more {m':Nat} (h:FoV W n m J s M St w) (hm:m≤m'):FoV W n m' J s M St w:=by
 obtain ⟨S,o,F,e1,e2,e3,V,e4,e5,e6⟩:=h
 exact ⟨S,o,F,e1,e2,e3,V,e4,e5,fun x hx=>Nat.le_trans (e6 x hx) hm⟩
theorem right_disk {x:Go.Proofs.YthhldceidmphfaaGreatDoor.S.Sup} {n e:Nat} (hr:x.right=true) (hf:Fit n x) (he:e<n):({ x with disk:=(e:Int) }:Go.Proofs.YthhldceidmphfaaGreatDoor.S.Sup).right=true:=by
 obtain ⟨h1,h2,h3,h4,h5,h6,h7,h8⟩:=Go.Proofs.YthhldceidmphfaaGreatDoor.S.right_parts hr
 unfold Fit at hf
 obtain ⟨x0,x1,x2,x3,x4,x5,x6,x7⟩:=x
 unfold Go.Proofs.YthhldceidmphfaaGreatDoor.S.Sup.right
 simp only [Bool.and_eq_true,decide_eq_true_eq]
 simp only at h1 h2 h3 h4 h5 h6 h8 hf
 exact ⟨⟨⟨⟨⟨⟨⟨h1,h2⟩,⟨by omega,by omega⟩⟩,h4⟩,h5⟩,h6⟩,h7⟩,h8⟩
theorem rdT_len {LL:Nat} {S:Sh.Sf} {o:Nat→Int} {y:Int} {X:Sh.Bs} {t:Stt} {k:Int} (h:RdR LL s M St k S o y X t):t.S.disks.length=S.disks.length∧t.S.sectors=S.sectors:=by
 cases h with
 | refused _=>exact ⟨rfl,rfl⟩
 | there m y X t _ _ _ hT =>
  have hs:Same S (shouldR s M (2+2*LL+stOf M m) (stOf M m) (meOf M m) S).1:=((Same.refl S).looked _).trans (tog_same M)
  cases hT with
  | plain _=>exact ⟨((Same.refl S).looked _).len,((Same.refl S).looked _).sectors⟩
  | lack _ _=>exact ⟨hs.len,hs.sectors⟩
  | dead _ _=>exact ⟨hs.len,hs.sectors⟩
  | bad z x S2 _ _ hD _=>exact ⟨hD.len.trans hs.len,hD.sectors.trans hs.sectors⟩
  | mend x S2 _ _ hD=>exact ⟨hD.len.trans hs.len,hD.sectors.trans hs.sectors⟩
theorem openR_len {S:Sh.Sf} {n:Nat} {y:Int} {t:Stt} (h:OpenR n S y t) (hy:y=0):t.S.disks.length=S.disks.length∧t.S.sectors=S.sectors:=by
 cases h with
 | off _=>exact absurd hy (by decide)
 | none S1 _ hs _=>exact absurd hy (by decide)
 | agree S1 y b _ hs _ hr h0=>exact absurd hy h0
 | replay S1 b y t U _ hs _ hr hp h0=>exact absurd hy h0
 | flush S1 b t U y e D' U' _ hs _ hr hp hf =>
  obtain ⟨a1,a2⟩:=hf.len
  have h2:=hr.keep
  have b1:t.S.disks.length=b.S.disks.length∧t.S.sectors=b.S.sectors:=by
   rcases hp with ⟨_,h1⟩ | ⟨h0,_⟩
   ·exact h1.len
   ·exact absurd rfl h0
  exact ⟨(a1.trans b1.1).trans (h2.1.trans hs.len),(a2.trans b1.2).trans (h2.2.trans hs.sectors)⟩
theorem open_free (h:Fo W p n m w) (hA:All W) (h1:1≤n) (h17:n≤17) (hm:m≤100000) :
  Calls Tryz.prog 37 #[.pointer (some ⟨p,0,none⟩)] w fun e w' =>
   (e=.returned (.tuple #[.pointer none,.int .i64 8])∧Below W.heap.size W w') ∨
   (∃(J:Vk) (s:Go.Proofs.YthhldceidmphfaaGreatDoor.S.Sup) (M St:Nat),e=.returned (.tuple #[.pointer (some ⟨J.v,0,none⟩),.int .i64 0])∧(3≤M∧M≤16)∧(n=M∨n=M+1)∧St≤1024∧FoV W n (m+2000) J s M St w'):=by
 obtain ⟨S,F,a,al,hn,hs,hL⟩:=h
 have hT:=hA.tblF
 refine (open_any (m:=m) a hn h1 h17 hT.tabs hT.tb hT.wid hT.wb hT.flds hT.fb hT.lay hT.pb (by rw [hs];decide) (fun d b x _ _ hx=>sayO_is hn hx) (fun d b x e _ _ he hx=>by
  obtain ⟨q1,_,_,q4,_⟩:=sayO_is hn hx
  exact right_disk q1 q4 he) hL hm).mono ?_
 rintro e w' ⟨y,t,hO,hres⟩
 obtain ⟨al2,hy⟩:=al.openR hO
 rcases hres with ⟨h0,rfl,F',a2,_⟩ | ⟨rfl,J,F',rfl,e1,e2,e3,e4,e5,V2,_⟩
 ·rcases hy with ⟨rfl,_⟩ | ⟨rfl,_⟩
  ·exact .inl ⟨rfl,a2.bel⟩
  ·exact absurd rfl h0
 ·have hne:sayTo S n 0≠[]:=hy.elim (fun e=>absurd e.1 (by decide)) And.right
  obtain ⟨d,b,hd,hb,hx⟩:=mem_sayTo (mem_newest hne)
  have hsi:=sayO_is hn hx
  obtain ⟨q1,q2,q3,q4,q5⟩:=hsi
  obtain ⟨r1,r2,r3,r4,r5,r6,r7,r8⟩:=Go.Proofs.YthhldceidmphfaaGreatDoor.S.right_parts q1
  have hlen:t.S.disks.length=n∧t.S.sectors=S.sectors:=by
   have:=openR_len hO rfl
   exact ⟨this.1.trans hn,this.2⟩
  have hF:=fits_of (S:=t.S) ⟨q1,q2,q3,q4,q5⟩ hlen.1 (by rw [hlen.2])
  have hLL:(newestOf (sayTo S n 0)).logs.toNat=J.L:=by omega
  rw [hLL] at hF
  refine .inr ⟨J,newestOf (sayTo S n 0),(newestOf (sayTo S n 0)).mem.toNat,(newestOf (sayTo S n 0)).str.toNat,rfl,⟨by omega,by omega⟩,?_,by omega,t.S,t.o,F',e1,e2,e4,V2,by rw [e4];exact hF,al2,?_⟩
  ·unfold Fit at q4
   omega
  ·exact OpenR.waits h17 (fun _=>by omega) hO hL
theorem foV_read (h:FoV W n m J s M St w) (hA:All W) (hm:m≤400000000) (k:Int) :
  Calls Tryz.prog 20 #[.pointer (some ⟨J.v,0,none⟩),.int .i64 k] w fun e w'=>∃(y:Int) (A:Option Addr) (len cap:Nat),e=.returned (.tuple #[.slice A len cap,.int .i64 y])∧FoV W n (m+1000) J s M St w'∧((y=0∧len=128)∨y=10∨(y=1∧¬(0≤k∧k<((St*(M-1):Nat):Int)))):=by
 obtain ⟨S,o,F,e1,e2,e3,V,hF,al,hL⟩:=h
 have hT:=hA.tblF
 refine (vRead_any V hF (by rw [e2];exact hT.tabs) (by rw [e1];exact hT.tb) k hL (by omega)).mono ?_
 rintro e w' ⟨y,A,len,cap,rfl,X,t,F',hR,V2,_,hres⟩
 obtain ⟨al2,hy⟩:=al.rdR hR
 obtain ⟨l1,l2⟩:=rdT_len hR
 refine ⟨y,A,len,cap,rfl,⟨t.S,t.o,F',e1,e2,e3,V2,hF.same l1 l2,al2,waits_more (by omega) (hR.waits hL)⟩,?_⟩
 rcases hres with ⟨h0,hl,_⟩ | ⟨h0,_⟩
 ·exact .inl ⟨h0,hl⟩
 ·rcases hy with e | e | e
  ·exact .inr (.inr e)
  ·exact absurd e h0
  ·exact .inr (.inl e)
theorem foV_size (h:FoV W n m J s M St w):Calls Tryz.prog 38 #[.pointer (some ⟨J.v,0,none⟩)] w fun e w'=>e=.returned (.int .i64 ((St*(M-1):Nat):Int))∧Below w.heap.size w w':=by
 obtain ⟨S,o,F,e1,e2,e3,V,hF,_⟩:=h
 exact vsize V hF
theorem foV_status (h:FoV W n m J s M St w):Calls Tryz.prog 39 #[.pointer (some ⟨J.v,0,none⟩)] w fun e w'=>∃(A:Option Addr) (c:Nat),e=.returned (.agg #[.int .i64 M,.int .i64 St,.slice A 0 c,.int .i64 s.spare,.int .i64 s.mark,.int .i64 s.cur])∧Below w.heap.size w w':=by
 obtain ⟨S,o,F,e1,e2,e3,V,hF,al,_⟩:=h
 have hd:(deads s M St S M).length=0:=by
  have e:deads s M St S M=[]:=List.filter_eq_nil_iff.2 fun x _=>by
   unfold memDead
   have h1:=al.alive (numOf s M 0 x)
   have h2:=al.alive (numOf s M (St-1) x)
   unfold Dead at h1 h2
   simp [h1,h2]
  rw [e];rfl
 have:=status_any V hF
 rw [hd] at this
 exact this
end
def FoD (W:World) (p n m a d c:Nat) (w:World):Prop :=
 ∃S F o,Dv W.heap.size W w a p d o S F∧(∀b,F b→b<c)∧Al S∧S.disks.length=n∧S.sectors=40∧∀x∈S.disks,x.waits.length≤m
section
variable {W w w0 w':World} {p n m a d c g:Nat} {l:Sh.Bs}
theorem own_there {base:Nat} (h:w.ownsRow base 5 1 (.slice (some ⟨g,0,none⟩) 128 128) 128 (bts l)):base≤g∧g<w.heap.size:=by
 obtain ⟨g',cap,hv,h1,hlt⟩:=h.form (by decide)
 injection hv with hv
 injection hv with hv
 injection hv with hv
 subst hv
 exact ⟨h1,hlt⟩
theorem fo_write (h:Fo W p n m w0) (hb:Below w0.heap.size w0 w) (ho:w.ownsRow w0.heap.size 5 1 (.slice (some ⟨g,0,none⟩) 128 128) 128 (bts l)) (hl:Sh.Sec l) (d k:Nat) (hd:d<n) (hk:k<40) (hm:m≤1000000) :
  Calls Tryz.prog 36 #[.pointer (some ⟨p,0,none⟩),.int .i64 d,.int .i64 k,.slice (some ⟨g,0,none⟩) 128 128] w fun e w'=>(∃y:Int,e=.returned (.int .i64 y))∧Fo W p n (m+1) w':=by
 obtain ⟨S,F,a,al,e1,e2,e3⟩:=h
 obtain ⟨h1,h2⟩:=own_there ho
 have a1:=a.grown hb
 refine (wr_of w p d k l a1.shelf (by omega) (by omega) (fun x hx=>by have:=e3 x hx;omega) hl (Reads.of_own ho) (fun x hx e=>by
  injection hx with hx
  subst hx
  have h3:g<w0.heap.size:=a.shelf.ltF e
  omega)).mono ?_
 rintro e w' ⟨rfl,hlf⟩
 obtain ⟨F',a2,_⟩:=a1.left hlf
 refine ⟨⟨_,rfl⟩,_,F',a2,al.wr d k l,(wr_length _ _ _ _).trans e1,(wr_sectors _ _ _ _).trans e2,fun x hx=>?_⟩
 have:=wr_waits (m:=m+2) (fun k hk=>by have:=e3 k hk;omega) x hx
 omega
theorem fo_open (h:Fo W p n m w0) (hb:Below w0.heap.size w0 w) (d:Nat) (hd:d<n) :
  Calls Tryz.prog 32 #[.pointer (some ⟨p,0,none⟩),.int .i64 d] w fun e w'=>e=.returned (.tuple #[.pointer (some ⟨w.heap.size,0,none⟩),.int .i64 0])∧FoD W p n m w.heap.size d w0.heap.size w'∧Below w.heap.size w w':=by
 obtain ⟨S,F,a,al,e1,e2,e3⟩:=h
 have a1:=a.grown hb
 refine (open_yes d a1.shelf (by omega)).mono ?_
 rintro e w' ⟨rfl,hd,hb2⟩
 exact ⟨rfl,⟨S,F,-1,⟨a1.grown hb2,hd,(fun e=>Nat.lt_irrefl _ (a1.shelf.ltF e)),a1.size⟩,fun b e=>a.shelf.ltF e,al,e1,e2,e3⟩,hb2⟩
theorem foD_write (h:FoD W p n m a d c w) (hA:All W) (hd:d<n) (k:Nat) (hk:k<37) (hr:Reads w w.heap.size (some ⟨g,0,none⟩) 128 (bts l)) (hl:Sh.Sec l) (hg:c≤g) (hga:g≠a) (hm:m≤1000000) :
  Calls Tryz.prog 33 #[.pointer (some ⟨a,0,none⟩),.int .i64 k,.slice (some ⟨g,0,none⟩) 128 128] w fun e w'=>(∃y:Int,e=.returned (.int .i64 y))∧FoD W p n (m+3) a d w'.heap.size w':=by
 obtain ⟨S,F,o,D,hF,al,e1,e2,e3⟩:=h
 have hT:=hA.tblF
 refine (dwrite D hT.tabs hT.tb k (by rw [e2];exact Nat.lt_of_lt_of_eq hk (by decide)) (by omega) l hl ⟨hr,fun x hx e=>by
  injection hx with hx
  subst hx
  rcases e with e | e
  ·have:=hF _ e
   have h2:c≤g:=hg
   exact absurd this (Nat.not_lt.2 h2)
  ·exact hga e⟩ e3 (by omega)).mono ?_
 rintro e w' ⟨y,rfl,o',S',hD,F',D2,_⟩
 obtain ⟨_,al2⟩:=al.dw hD
 exact ⟨⟨y,rfl⟩,S',F',o',D2,fun b e=>D2.on.shelf.ltF e,al2,hD.len.trans e1,hD.sectors.trans e2,hD.waits e3⟩
theorem foD_flush (h:FoD W p n m a d c w) (hd:d<n) (hm:m≤1000000) :
  Calls Tryz.prog 35 #[.pointer (some ⟨a,0,none⟩)] w fun e w'=>(∃y:Int,e=.returned (.int .i64 y))∧Fo W p n m w':=by
 obtain ⟨S,F,o,D,hF,al,e1,e2,e3⟩:=h
 refine (flush_dev D (by omega) (fun x hx=>by have:=e3 x hx;omega)).mono ?_
 rintro e w' ⟨rfl,F',D2,_⟩
 exact ⟨⟨_,rfl⟩,_,F',D2.on,al.fl d,(fl_length _ _).trans e1,(fl_sectors _ _).trans e2,fun x hx=>by
  have:=fl_waits (m:=m+1) (d:=d) (fun k hk=>by have:=e3 k hk;omega) x hx
  omega⟩
theorem FoD.bel (h:FoD W p n m a d c w):Below W.heap.size W w∧W.heap.size≤w.heap.size:=by
 obtain ⟨S,F,o,D,_⟩:=h
 exact ⟨D.on.bel,D.on.size⟩
theorem fo_new (n:Nat) (h1:1≤n) (h17:n≤17) (hb:Below W.heap.size W w) (hz:W.heap.size≤w.heap.size):Calls Tryz.prog 30 #[.int .i64 n,.int .i64 40] w fun e w'=>∃p,e=.returned (.tuple #[.pointer (some ⟨p,0,none⟩),.int .i64 0])∧Fo W p n 0 w':=by
 refine (Sh.new_ok n 40 w h1 h17 (by decide) (by decide)).mono ?_
 rintro e w1 ⟨p,F1,rfl,hS,hF,hb1⟩
 refine ⟨p,rfl,_,F1,⟨hS,fun b e=>by have:=hF b e;omega,hb.trans (hb1.mono hz),Nat.le_trans hz hb1.size⟩,al_new n 40,by simp [Sh.newSf],rfl,fun x hx=>?_⟩
 have hx:x∈List.replicate n (Sh.newDk 40):=hx
 rw [(List.mem_replicate.1 hx).2]
 exact Nat.le_refl 0
end
end Go.Proofs.YthhldceidmphfaaGreatDoor.U
