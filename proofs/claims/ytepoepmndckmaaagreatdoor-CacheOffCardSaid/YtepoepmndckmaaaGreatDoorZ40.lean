/-
  What the statement's proof rests on, part 40.
  Conditions: each theorem's own.
-/
import Derived.Test.YtepoepmndckmaaaGreatDoorZ39
namespace Go.Proofs.YtepoepmndckmaaaGreatDoor.Kc
open Go.ChangeShapes Go.WideShapes Go.ChangeAt Go.RowKit Go.Maps
section
variable {H:Type} {enc:TypeId × Value→H} {W:World}
theorem cells_got {base n:Nat} {a:Addr} {xs:List Value} (h:W.cells? base a n=some xs):xs.length=n∧∀k,k<n→∃v,xs[k]?=some v∧W.cell? (a.add k)=some v:=by
 unfold World.cells? at h
 split at h
 ·have hl:xs.length=n:=by simpa using mapM_some_length h
  refine ⟨hl,fun k hk=>?_⟩
  have:=mapM_some_get h k k (by simp [hk])
  rw [List.getElem?_eq_getElem (by omega)] at this
  exact ⟨_,List.getElem?_eq_getElem (by omega),this⟩
 ·cases h
theorem int_off {m:Nat} {v:Value} {y:DataW H × List MemPlace} (h:DataW.trod enc Tryz.prog W 0 (fun _=>true) true m 3 [v]=some y):∃z:Int,v=.int .i64 z∧-9223372036854775808≤z∧z≤9223372036854775807:=by
 cases m with
 | zero=>simp [DataW.trod] at h
 | succ m =>
  simp only [DataW.trod,Tryz.underlying3] at h
  cases v<;>simp at h
  rename_i k b
  obtain ⟨⟨rfl,hw⟩,_⟩:=h
  exact ⟨b,rfl,bounds_i64 hw⟩
theorem u8_off {m:Nat} {v:Value} {y:DataW H × List MemPlace} (h:DataW.trod enc Tryz.prog W 0 (fun _=>true) true m 5 [v]=some y):∃z:Nat,v=.int .u8 (z:Int)∧z<256:=by
 cases m with
 | zero=>simp [DataW.trod] at h
 | succ m =>
  simp only [DataW.trod,Tryz.underlying5] at h
  cases v<;>simp at h
  rename_i k b
  obtain ⟨⟨rfl,hw⟩,_⟩:=h
  have:=bounds_u8 hw
  exact ⟨b.toNat,by rw [Int.toNat_of_nonneg this.1],by omega⟩
def I64 (z:Int):Prop:=-9223372036854775808≤z∧z≤9223372036854775807
structure Op10 where
 kind:Int
 n:Int
 x:Nat
structure Op10Is (W:World) (b o:Nat) (v:Op10):Prop where
 c0:W.cell? ⟨b,o,none⟩=some (.int .i64 v.kind)
 c1:W.cell? ⟨b,o+1,none⟩=some (.int .i64 v.n)
 c2:W.cell? ⟨b,o+2,none⟩=some (.int .u8 (v.x:Int))
 b0:I64 v.kind
 b1:I64 v.n
 b2:v.x<256
def Ops10 (W:World) (A:Option Addr) (n:Nat) (f:Nat→Op10):Prop:=n≤9223372036854775807∧(0<n→∃b off,A=some ⟨b,off,none⟩∧b<W.heap.size∧∀i,i<n→Op10Is W b (off+i*3) (f i))
def Ints10 (W:World) (A:Option Addr) (n:Nat) (f:Nat→Int):Prop:=n≤9223372036854775807∧(0<n→∃b off,A=some ⟨b,off,none⟩∧b<W.heap.size∧∀i,i<n→W.cell? ⟨b,off+i,none⟩=some (.int .i64 (f i))∧I64 (f i))
theorem cellsOp10:Tryz.prog.cellsOf 31=3:=by kernel_rfl
theorem cellsI10:Tryz.prog.cellsOf 3=1:=by kernel_rfl
set_option maxRecDepth 20000 in
theorem op10_in {b o m:Nat} {cs:List Value} {y:DataW H × List MemPlace} (hl:cs.length=3) (hc:∀k,k<3→∃v,cs[k]?=some v∧W.cell? ⟨b,o+k,none⟩=some v) (h:DataW.trod enc Tryz.prog W 0 (fun _=>true) true m 31 cs=some y) :
  ∃v:Op10,Op10Is W b o v:=by
 obtain ⟨xs,k,rfl,rfl,_,hxs,hf⟩:=DataW.trod_struct Tryz.underlying31 h
 match cs,hl,hc with
 | [v0,v1,v2],_,hc =>
  have hs:xs.length=3:=hxs
  have f0:=hf 0 _ rfl
  have f1:=hf 1 _ rfl
  have f2:=hf 2 _ rfl
  match xs,hs with
  | [z0,z1,z2],_ =>
   obtain ⟨kind,rfl,a0⟩:=int_off (v:=v0) (show DataW.trod enc Tryz.prog W 0 (fun _=>true) true k 3 [v0]=some z0 from f0)
   obtain ⟨num,rfl,a1⟩:=int_off (v:=v1) (show DataW.trod enc Tryz.prog W 0 (fun _=>true) true k 3 [v1]=some z1 from f1)
   obtain ⟨z,rfl,a2⟩:=u8_off (v:=v2) (show DataW.trod enc Tryz.prog W 0 (fun _=>true) true k 5 [v2]=some z2 from f2)
   have g:∀i v,i<3→([.int .i64 kind,.int .i64 num,.int .u8 (z:Int)]:List Value)[i]?=some v→W.cell? ⟨b,o+i,none⟩=some v:=fun i v hi hv=>by
    obtain ⟨u,h1,h2⟩:=hc i hi
    rw [hv] at h1
    injection h1 with h1
    rw [h1]
    exact h2
   exact ⟨⟨kind,num,z⟩,g 0 _ (by decide) rfl,g 1 _ (by decide) rfl,g 2 _ (by decide) rfl,a0,a1,a2⟩
theorem ops10_in {fuel n c:Nat} {A:Option Addr} {x:DataW H × List MemPlace} (h:DataW.trod enc Tryz.prog W 0 (fun _=>true) true fuel 22 [.slice A n c]=some x):∃f,Ops10 W A n f:=by
 rcases DataW.trod_slice Tryz.underlying22 h with ⟨h0,hx⟩ | ⟨a,len,cap,elems,rest,m,_,h0,hx,_,hl,hm,hlen,hel,_⟩
 ·simp only [List.cons.injEq,Value.slice.injEq,and_true] at h0
  obtain ⟨rfl,rfl,rfl⟩:=h0
  exact ⟨fun _=>⟨0,0,0⟩,by decide,fun h=>absurd h (by decide)⟩
 ·simp only [List.cons.injEq,Value.slice.injEq,and_true] at h0
  obtain ⟨rfl,rfl,rfl⟩:=h0
  have hcs:∀i,i<n→∃cs y,cs.length=3∧(∀k,k<3→∃v,cs[k]?=some v∧W.cell? ((a.add (i*3)).add k)=some v)∧DataW.trod enc Tryz.prog W 0 (fun _=>true) true m 31 cs=some y:=by
   intro i hi
   have h1:=hel i hi
   rw [cellsOp10,List.getElem?_eq_getElem (by omega),Option.bind_eq_some_iff] at h1
   obtain ⟨cs,hcs,hy⟩:=h1
   obtain ⟨hl1,hg⟩:=cells_got hcs
   exact ⟨cs,_,hl1,hg,hy⟩
  rcases Nat.eq_zero_or_pos n with h0 | h0
  ·exact ⟨fun _=>⟨0,0,0⟩,by unfold maxLen at hm;omega,fun h=>by omega⟩
  ·obtain ⟨b,off,spot⟩:=a
   obtain ⟨cs,y,_,hg,_⟩:=hcs 0 h0
   obtain ⟨v,_,hv⟩:=hg 0 (by decide)
   have hspot:spot=none:=by simpa [Addr.add] using World.cell?_spot hv
   subst hspot
   have hblt:=World.block_lt_of_cell? W _ hv
   rw [Sh.block_of_add,Sh.block_of_add] at hblt
   have hz:∀i,∃v:Op10,i<n→Op10Is W b (off+i*3) v:=by
    intro i
    by_cases hi:i<n
    ·obtain ⟨cs,y,hl5,hg,hy⟩:=hcs i hi
     obtain ⟨v,hv⟩:=op10_in (b:=b) (o:=off+i*3) hl5 (fun k hk=>by
      obtain ⟨v,h1,h2⟩:=hg k hk
      rw [Sh.add_of_add,U.add_plain,← Nat.add_assoc] at h2
      exact ⟨v,h1,h2⟩) hy
     exact ⟨v,fun _=>hv⟩
    ·exact ⟨⟨0,0,0⟩,fun h=>absurd h hi⟩
   obtain ⟨f,hf⟩:=Classical.axiomOfChoice hz
   exact ⟨f,by unfold maxLen at hm;omega,fun _=>⟨b,off,rfl,hblt,hf⟩⟩
theorem ints10_in {fuel n c:Nat} {A:Option Addr} {x:DataW H × List MemPlace} (h:DataW.trod enc Tryz.prog W 0 (fun _=>true) true fuel 54 [.slice A n c]=some x):∃f,Ints10 W A n f:=by
 rcases DataW.trod_slice Tryz.underlying54 h with ⟨h0,hx⟩ | ⟨a,len,cap,elems,rest,m,_,h0,hx,_,hl,hm,hlen,hel,_⟩
 ·simp only [List.cons.injEq,Value.slice.injEq,and_true] at h0
  obtain ⟨rfl,rfl,rfl⟩:=h0
  exact ⟨fun _=>0,by decide,fun h=>absurd h (by decide)⟩
 ·simp only [List.cons.injEq,Value.slice.injEq,and_true] at h0
  obtain ⟨rfl,rfl,rfl⟩:=h0
  have hcs:∀i,i<n→∃z:Int,W.cell? (a.add i)=some (.int .i64 z)∧I64 z:=by
   intro i hi
   have h1:=hel i hi
   rw [cellsI10,Nat.mul_one,List.getElem?_eq_getElem (by omega),Option.bind_eq_some_iff] at h1
   obtain ⟨cs,hcs,hy⟩:=h1
   obtain ⟨hl1,hg⟩:=cells_got hcs
   obtain ⟨v,hv,hcv⟩:=hg 0 (by decide)
   have e:cs=[v]:=by
    match cs,hl1,hv with
    | [u],_,hv=>simpa using hv
   subst e
   have e2:(a.add i).add 0=a.add i:=by unfold Addr.add;simp
   rw [e2] at hcv
   obtain ⟨z,rfl,hz⟩:=int_off hy
   exact ⟨z,hcv,hz⟩
  rcases Nat.eq_zero_or_pos n with h0 | h0
  ·exact ⟨fun _=>0,by unfold maxLen at hm;omega,fun h=>by omega⟩
  ·obtain ⟨b,off,spot⟩:=a
   obtain ⟨v,hv,_⟩:=hcs 0 h0
   have hspot:spot=none:=by simpa [Addr.add] using World.cell?_spot hv
   subst hspot
   have hblt:=World.block_lt_of_cell? W _ hv
   rw [Sh.block_of_add] at hblt
   have hz:∀i,∃v:Int,i<n→W.cell? ⟨b,off+i,none⟩=some (.int .i64 v)∧I64 v:=by
    intro i
    by_cases hi:i<n
    ·obtain ⟨v,hv,hb⟩:=hcs i hi
     rw [U.add_plain] at hv
     exact ⟨v,fun _=>⟨hv,hb⟩⟩
    ·exact ⟨0,fun h=>absurd h hi⟩
   obtain ⟨f,hf⟩:=Classical.axiomOfChoice hz
   exact ⟨f,by unfold maxLen at hm;omega,fun _=>⟨b,off,rfl,hblt,hf⟩⟩
end
theorem setD_self {l:List Int} {k:Nat} {v:Int} (h:k<l.length):(l.set k v).getD k 0=v:=by
 simp [List.getD_eq_getElem?_getD,h]
theorem setD_ne {l:List Int} {k j:Nat} {v:Int} (h:j≠k):(l.set k v).getD j 0=l.getD j 0:=by
 rw [List.getD_eq_getElem?_getD,List.getD_eq_getElem?_getD,List.getElem?_set_ne (by omega)]
theorem getD_mem {l:List Int} {k:Nat} (h:k<l.length):l.getD k 0∈l:=by
 rw [List.getD_eq_getElem?_getD,List.getElem?_eq_getElem h]
 exact List.getElem_mem h
structure LeastI (n:Nat) (l:List En) (last:List Int) (i:Nat):Prop where
 len:l.length≤n
 lows:∀e∈l,e.k<12
 pins:∀e∈l,e.pins=0
 row:last.length=12
 tops:∀v∈last,v≤(i:Int)
 ord:l.Pairwise fun a b=>last.getD a.k 0<last.getD b.k 0
 out:∀b,b<12→(∀e∈l,e.k≠b)→∀e∈l,last.getD b 0≤last.getD e.k 0
section
variable {n:Nat} {l:List En} {last:List Int} {i:Nat}
theorem LeastI.none:LeastI n [] (List.replicate 12 0) 0 :=
 ⟨Nat.zero_le _,(fun _ h=>by cases h),(fun _ h=>by cases h),List.length_replicate,(fun v hv=>by rw [List.eq_of_mem_replicate hv];exact Int.le_refl _),List.Pairwise.nil,(fun _ _ _ _ h=>by cases h)⟩
theorem LeastI.snoc (h:LeastI n l last i) {t:List En} {e':En} (hs:t.Sublist l) (hk:∀e∈t,e.k≠e'.k) (h12:e'.k<12) (hp:e'.pins=0) (hn:t.length+1≤n)
  (ho:∀z∈l,z ∉ t→z.k=e'.k∨∀e∈t,last.getD z.k 0≤last.getD e.k 0):LeastI n (t++[e']) (last.set e'.k ((i:Int)+1)) (i+1):=by
 have hlt:e'.k<last.length:=by rw [h.row];exact h12
 have hold:∀e∈t,(last.set e'.k ((i:Int)+1)).getD e.k 0=last.getD e.k 0:=fun e he=>setD_ne (hk e he)
 have htop:∀b,b<12→last.getD b 0≤(i:Int):=fun b hb=>h.tops _ (getD_mem (by rw [h.row];exact hb))
 refine ⟨by simpa using hn,fun e he=>?_,fun e he=>?_,by simpa using h.row,fun v hv=>?_,?_,fun b hb hne e he=>?_⟩
 ·rcases List.mem_append.1 he with q | q
  ·exact h.lows e (hs.subset q)
  ·rw [List.mem_singleton.1 q];exact h12
 ·rcases List.mem_append.1 he with q | q
  ·exact h.pins e (hs.subset q)
  ·rw [List.mem_singleton.1 q];exact hp
 ·rcases List.mem_or_eq_of_mem_set hv with q | q
  ·have:=h.tops v q
   omega
  ·rw [q];omega
 ·rw [List.pairwise_append]
  refine ⟨(h.ord.sublist hs).imp_of_mem fun {a b} ha hb hab=>by rw [hold a ha,hold b hb];exact hab,by simp,fun a ha b hb=>?_⟩
  rw [List.mem_singleton.1 hb,hold a ha,setD_self hlt]
  have:=htop a.k (h.lows a (hs.subset ha))
  omega
 ·have hbe:b≠e'.k:=fun q=>hne e' (List.mem_append_right _ (List.mem_singleton.2 rfl)) q.symm
  rw [setD_ne hbe]
  rcases List.mem_append.1 he with q | q
  ·rw [hold e q]
   by_cases hin:∃z∈l,z.k=b
   ·obtain ⟨z,hz,rfl⟩:=hin
    have hzt:z ∉ t:=fun q2=>hne z (List.mem_append_left _ q2) rfl
    rcases ho z hz hzt with q2 | q2
    ·exact absurd q2 hbe
    ·exact q2 e q
   ·exact h.out b hb (fun z hz q2=>hin ⟨z,hz,q2⟩) e (hs.subset q)
  ·rw [List.mem_singleton.1 q,setD_self hlt]
   have:=htop b hb
   omega
theorem mem_dropE {l:List En} {k:Nat} {z:En}:z∈dropE l k↔z∈l∧z.k≠k:=by
 unfold dropE
 simp
theorem LeastI.get {V:VolK} {x x':V.σ} {k:Nat} {y:Int} {X:Sh.Bs} {l':List En} (hV:Okv V) (hVn:V.n=12) (h:LeastI n l last i) (h1:1≤n) (hk:k<12) (hg:GetR V n (k:Int) l x y X l' x') :
  y=0∧LeastI n l' (last.set k ((i:Int)+1)) (i+1)∧∃e∈l',e.k=k:=by
 rcases hf:finds l (k:Int) with _ | e
 ·have hno:∀e∈l,e.k≠k:=fun e he q=>finds_none hf e he (by rw [q])
  by_cases hr:l.length<n
  ·obtain ⟨hy,_,p,rfl⟩:=hV.get_miss (m:=k) hg rfl (by rw [hVn];exact hk) hf hr
   exact ⟨hy,h.snoc (e':=⟨k,p,X,false,0⟩) (List.Sublist.refl l) hno hk rfl hr fun z hz hzt=>absurd hz hzt,_,List.mem_append_right _ (List.mem_singleton.2 rfl),rfl⟩
  ·have hlen:=h.len
   match l,h,hf,hr,hg,hno,hlen with
   | [],_,_,hr,_,_,_=>exact absurd h1 (by simpa using hr)
   | e0 :: t,h,hf,hr,hg,hno,hlen =>
    have hp0:=h.pins e0 (List.mem_cons_self ..)
    have hfirst:firstE (e0 :: t)=0:=by unfold firstE;rw [List.findIdx_cons];simp [hp0]
    obtain ⟨hy,x1,e',p,_,_,rfl⟩:=hV.get_left (m:=k) hg rfl (by rw [hVn];exact hk) hf hr (e:=e0) (by rw [hfirst];rfl) hp0
    have hord:=List.pairwise_cons.1 h.ord
    have hd:∀z,z∈dropE (e0 :: t) e0.k→z∈t:=fun z hz=>by
     obtain ⟨q1,q2⟩:=mem_dropE.1 hz
     rcases List.mem_cons.1 q1 with q | q
     ·exact absurd (by rw [q]) q2
     ·exact q
    have hdl:(dropE (e0 :: t) e0.k).length≤t.length:=by
     unfold dropE
     rw [List.filter_cons_of_neg (by simp)]
     exact List.length_filter_le _ _
    refine ⟨hy,h.snoc (e':=⟨k,p,X,false,0⟩) (List.filter_sublist) (fun e he=>hno e (List.mem_cons_of_mem _ (hd e he))) hk rfl (by simp only [List.length_cons] at hlen;omega) fun z hz hzt=>?_,_,List.mem_append_right _ (List.mem_singleton.2 rfl),rfl⟩
    have hz0:z.k=e0.k:=Classical.byContradiction fun q=>hzt (mem_dropE.2 ⟨hz,q⟩)
    right
    intro e he
    rw [hz0]
    exact Int.le_of_lt (hord.1 e (hd e he))
 ·obtain ⟨he,hek⟩:=finds_some hf
  have hkk:e.k=k:=by omega
  obtain ⟨hy,_,rfl,_⟩:=get_hit hg ⟨by omega,by rw [hVn];omega⟩ hf
  have hin:∃e2∈dropE l e.k++[e],e2.k=k:=⟨e,List.mem_append_right _ (List.mem_singleton.2 rfl),hkk⟩
  rw [← hkk]
  have hlt:(dropE l e.k).length+1≤l.length:=by
   unfold dropE
   have:=List.length_filter_lt_length_iff_exists (l:=l) (p:=fun z=>decide (z.k≠e.k))
   exact this.2 ⟨e,he,by simp⟩
  have hlen:=h.len
  exact ⟨hy,h.snoc (e':=e) (List.filter_sublist) (fun z hz=>(mem_dropE.1 hz).2) (by omega) (h.pins e he) (by omega) fun z hz hzt=>.inl (Classical.byContradiction fun q=>hzt (mem_dropE.2 ⟨hz,q⟩)),by rw [hkk];exact hin⟩
end
structure Leaves (V:VolK) (k:Nat) (P:V.σ→Prop):Prop where
 rd:∀{x m y X x'},V.rd x m y X x'→P x→P x'
 wr:∀{x m b y x'},V.wr x m b y x'→m<V.n→m≠k→P x→P x'
 fl:∀{x y x'},V.fl x y x'→P x→P x'
section
variable {V:VolK} {P:V.σ→Prop} {most k:Nat} {l l':List En} {x x':V.σ} {n:Int} {y:Int} {X b:Sh.Bs} {z:En}
theorem mem_dropE2 {l:List En} {k:Nat} {z:En} (h:z∈l) (hk:z.k≠k):z∈dropE l k:=mem_dropE.2 ⟨h,hk⟩
theorem Leaves.wb (h:Leaves V k P) {e e':En} (hw:WbR V x e y x' e') (hlow:e.k<V.n) (hk:e.k≠k) (hP:P x):P x'∧e'.k=e.k:=by
 cases hw with
 | clean _=>exact ⟨hP,rfl⟩
 | no _ _ _ h1 _=>exact ⟨h.wr h1 hlow hk hP,rfl⟩
 | done _ _ h1=>exact ⟨h.wr h1 hlow hk hP,rfl⟩
structure Pnd (V:VolK) (P:V.σ→Prop) (z:En) (l:List En) (x:V.σ):Prop where
 mem:z∈l
 pins:z.pins≠0
 has:P x
 lows:∀e∈l,e.k<V.n
 keys:(l.map En.k).Nodup
theorem nodup_drop (h:(l.map En.k).Nodup) (k:Nat):((dropE l k).map En.k).Nodup:=by
 unfold dropE
 exact h.sublist (List.filter_sublist.map _)
theorem nodup_snoc (h:(l.map En.k).Nodup) {e:En} (hk:∀a∈l,a.k≠e.k):((l++[e]).map En.k).Nodup:=by
 rw [List.map_append,List.nodup_append]
 refine ⟨h,by simp,fun a ha b hb=>?_⟩
 obtain ⟨z,hz,rfl⟩:=List.mem_map.1 ha
 simp only [List.map_cons,List.map_nil,List.mem_singleton] at hb
 rw [hb]
 exact hk z hz
theorem Pnd.room (hL:Leaves V z.k P) (h:Pnd V P z l x) (hr:RoomR V most l x y l' x'):Pnd V P z l' x'∧∀e∈l',e∈l:=by
 cases hr with
 | free _=>exact ⟨h,fun _ q=>q⟩
 | full _ _=>exact ⟨h,fun _ q=>q⟩
 | no e _ _ _ he h0 hw _ =>
  have hin:=List.mem_of_getElem? he
  exact ⟨⟨h.mem,h.pins,(hL.wb hw (h.lows e hin) (fun q=>h.pins (by rw [← one_of_key h.keys hin h.mem q];exact h0)) h.has).1,h.lows,h.keys⟩,fun _ q=>q⟩
 | left e e' _ _ he h0 hw =>
  have hin:=List.mem_of_getElem? he
  have hne:e.k≠z.k:=fun q=>h.pins (by rw [← one_of_key h.keys hin h.mem q];exact h0)
  exact ⟨⟨mem_dropE2 h.mem (Ne.symm hne),h.pins,(hL.wb hw (h.lows e hin) hne h.has).1,fun a ha=>h.lows a (mem_dropE.1 ha).1,nodup_drop h.keys _⟩,fun a ha=>(mem_dropE.1 ha).1⟩
theorem Pnd.keep (hL:Leaves V z.k P) (h:Pnd V P z l x) {m:Nat} (hm:m<V.n) (hf:∀e∈l,e.k≠m) (hr:KeepR V most m b l x y l' x'):Pnd V P z l' x':=by
 cases hr with
 | no _ _ _ hr _=>exact (h.room hL hr).1
 | kept l1 _ p hr =>
  obtain ⟨h1,h2⟩:=h.room hL hr
  refine ⟨List.mem_append_left _ h1.mem,h1.pins,h1.has,fun e he=>?_,nodup_snoc h1.keys fun a ha=>hf a (h2 a ha)⟩
  rcases List.mem_append.1 he with q | q
  ·exact h1.lows e q
  ·rw [List.mem_singleton.1 q];exact hm
theorem Pnd.fetch (hL:Leaves V z.k P) (h:Pnd V P z l x) {m:Nat} (hm:m<V.n) (hf:∀e∈l,e.k≠m) (hr:FetchR V most m l x y l' x'):Pnd V P z l' x':=by
 cases hr with
 | no _ _ _ hrd _=>exact ⟨h.mem,h.pins,hL.rd hrd h.has,h.lows,h.keys⟩
 | got _ _ _ _ _ hrd hk=>exact Pnd.keep hL ⟨h.mem,h.pins,hL.rd hrd h.has,h.lows,h.keys⟩ hm hf hk
theorem Pnd.use (h:Pnd V P z l x) {e e2:En} (he:e∈l) (hk:e2.k=e.k) (hne:e.k≠z.k):Pnd V P z (useE l e2) x:=by
 unfold useE
 refine ⟨List.mem_append_left _ (mem_dropE2 h.mem (by rw [hk];exact Ne.symm hne)),h.pins,h.has,fun a ha=>?_,nodup_snoc (nodup_drop h.keys _) fun a ha=>(mem_dropE.1 ha).2⟩
 rcases List.mem_append.1 ha with q | q
 ·exact h.lows a (mem_dropE.1 q).1
 ·rw [List.mem_singleton.1 q,hk];exact h.lows e he
theorem Pnd.get (hL:Leaves V z.k P) (h:Pnd V P z l x) (hn:n≠(z.k:Int)) (hr:GetR V most n l x y X l' x'):Pnd V P z l' x':=by
 cases hr with
 | out _=>exact h
 | here e _ hf =>
  obtain ⟨he,hk⟩:=finds_some hf
  exact h.use he rfl (fun q=>hn (by rw [← hk,q]))
 | no k _ _ _ hk hlt hf hr _=>exact h.fetch hL hlt (fun e he q=>finds_none hf e he (by rw [hk,q])) hr
 | got k l1 _ e hk hlt hf hr hfd =>
  have h1:=h.fetch hL hlt (fun e he q=>finds_none hf e he (by rw [hk,q])) hr
  obtain ⟨he,hek⟩:=finds_some hfd
  exact h1.use he rfl (fun q=>hn (by rw [← hek,q]))
theorem Pnd.put (hL:Leaves V z.k P) (h:Pnd V P z l x) (hn:n≠(z.k:Int)) (hr:PutR V most n b l x y l' x'):Pnd V P z l' x':=by
 cases hr with
 | out _=>exact h
 | here e _ _ hf =>
  obtain ⟨he,hk⟩:=finds_some hf
  exact h.use (e2:={ e with d:=b,dirty:=true }) he rfl (fun q=>hn (by rw [← hk,q]))
 | no k _ _ _ hk hlt _ hf hr _=>exact h.keep hL hlt (fun e he q=>finds_none hf e he (by rw [hk,q])) hr
 | new k l1 _ e hk hlt _ hf hr hfd =>
  have h1:=h.keep hL hlt (fun e he q=>finds_none hf e he (by rw [hk,q])) hr
  obtain ⟨he,hek⟩:=finds_some hfd
  exact h1.use (e2:={ e with d:=b,dirty:=true }) he rfl (fun q=>hn (by rw [← hek,q]))
theorem Pnd.over (h:Pnd V P z l x) {e e1:En} (he:e∈l) (hk:e1.k=e.k) (hne:e.k≠z.k):Pnd V P z (putE l e1) x:=by
 refine ⟨?_,h.pins,h.has,fun a ha=>?_,by rw [putE_keys];exact h.keys⟩
 ·unfold putE
  exact List.mem_map.2 ⟨z,h.mem,by rw [if_neg (by rw [hk];exact Ne.symm hne)]⟩
 ·rcases mem_putE ha with q | q
  ·rw [q,hk];exact h.lows e he
  ·exact h.lows a q.1
theorem Pnd.wbs (hL:Leaves V z.k P) {ks:List Int} (hr:WbsR V ks l x y l' x') (h:Pnd V P z l x) (hno:(z.k:Int) ∉ ks):Pnd V P z l' x':=by
 induction hr with
 | nil _ _=>exact h
 | no q _ _ _ e _ _ hf hw _ =>
  obtain ⟨he,hek⟩:=finds_some hf
  have hne:e.k≠z.k:=fun q2=>hno (by rw [← q2,hek];exact List.mem_cons_self ..)
  exact ⟨h.mem,h.pins,(hL.wb hw (h.lows e he) hne h.has).1,h.lows,h.keys⟩
 | next q _ _ _ e e1 _ _ _ _ hf hw _ ih =>
  obtain ⟨he,hek⟩:=finds_some hf
  have hne:e.k≠z.k:=fun q2=>hno (by rw [← q2,hek];exact List.mem_cons_self ..)
  obtain ⟨h1,h2⟩:=hL.wb hw (h.lows e he) hne h.has
  exact ih (Pnd.over (e:=e) ⟨h.mem,h.pins,h1,h.lows,h.keys⟩ he h2 hne) (fun q2=>hno (List.mem_cons_of_mem _ q2))
theorem Pnd.flush (hL:Leaves V z.k P) (h:Pnd V P z l x) (hr:FlushR V l x y l' x'):Pnd V P z l' x':=by
 have hno:(z.k:Int) ∉ risesE fFlush l:=fun q=>by
  unfold risesE at q
  rw [List.mem_mergeSort] at q
  obtain ⟨e,he,hk⟩:=List.mem_map.1 q
  obtain ⟨he1,he2⟩:=List.mem_filter.1 he
  have:e=z:=one_of_key h.keys he1 h.mem (by omega)
  subst this
  unfold fFlush at he2
  simp [h.pins] at he2
 cases hr with
 | no _ _ _ hr _=>exact h.wbs hL hr hno
 | all _ _ _ _ hr hfl =>
  have h1:=h.wbs hL hr hno
  exact ⟨h1.mem,h1.pins,hL.fl hfl h1.has,h1.lows,h1.keys⟩
theorem Cav.pnd {w:World} {g:Cg} {q:Nat} (h:Cav V w g most l x q) (hz:z∈l) (hp:z.pins≠0) (hP:P x):Pnd V P z l x:=⟨hz,hp,hP,h.ca.lows,h.ca.keys⟩
end
def CQ (V:VolK) (w:World) (c most:Nat) (l:List En) (x:V.σ) (k:Nat) (Q:List (Nat × Obj)):Prop :=
 ∃g:Cg,g.c=c∧Cav V w g most l x k∧∀z∈Q,w.heap[z.1]?=some z.2∧¬AllC V x g l z.1
section
variable {V:VolK} {w w':World} {c most:Nat} {l l':List En} {x x':V.σ} {k k':Nat} {Q:List (Nat × Obj)} {a:Nat} {o o':Obj}
theorem CQ.at_ (h:CQ V w c most l x k ((a,o) :: Q)):w.heap[a]?=some o:=by
 obtain ⟨g,_,_,h3⟩:=h
 exact (h3 _ (List.mem_cons_self ..)).1
theorem CQ.at2 {b:Nat} {o2:Obj} (h:CQ V w c most l x k ((a,o) :: (b,o2) :: Q)):w.heap[b]?=some o2:=by
 obtain ⟨g,_,_,h3⟩:=h
 exact (h3 _ (List.mem_cons_of_mem _ (List.mem_cons_self ..))).1
theorem CQ.of (h:CQ V w c most l x k Q) {z:Nat × Obj} (hz:z∈Q):w.heap[z.1]?=some z.2:=by
 obtain ⟨g,_,_,h3⟩:=h
 exact (h3 _ hz).1
theorem CQ.tail (h:CQ V w c most l x k ((a,o) :: Q)):CQ V w c most l x k Q:=by
 obtain ⟨g,h1,h2,h3⟩:=h
 exact ⟨g,h1,h2,fun z hz=>h3 z (List.mem_cons_of_mem _ hz)⟩
theorem CQ.less (h:CQ V w c most l x k Q) (hk:k'≤k):CQ V w c most l x k' Q:=by
 obtain ⟨g,h1,h2,h3⟩:=h
 exact ⟨g,h1,h2.less hk,h3⟩
theorem CQ.grown (h:CQ V w c most l x k Q) (hb:Below w.heap.size w w'):CQ V w' c most l x k Q:=by
 obtain ⟨g,h1,h2,h3⟩:=h
 exact ⟨g,h1,h2.grown hb,fun z hz=>⟨(hb.block _ (lt_of_block (h3 z hz).1)).trans (h3 z hz).1,(h3 z hz).2⟩⟩
theorem CQ.add (h:CQ V w c most l x k Q) (hb:Below w.heap.size w w') (ha:w.heap.size≤a) (ho:w'.heap[a]?=some o):CQ V w' c most l x k ((a,o) :: Q):=by
 have hlow:∀g:Cg,Cav V w g most l x k→¬AllC V x g l a:=fun g hg e=>by have:=hg.lt e;omega
 obtain ⟨g,h1,h2,h3⟩:=h
 refine ⟨g,h1,h2.grown hb,fun z hz=>?_⟩
 rcases List.mem_cons.1 hz with q | q
 ·rw [q];exact ⟨ho,hlow g h2⟩
 ·exact ⟨(hb.block _ (lt_of_block (h3 z q).1)).trans (h3 z q).1,(h3 z q).2⟩
theorem CQ.poke (h:CQ V w c most l x k ((a,o) :: Q)) (hne:∀z∈Q,z.1≠a) (hw:Sh.Only (fun b=>b=a) w w') (ho:w'.heap[a]?=some o'):CQ V w' c most l x k ((a,o') :: Q):=by
 obtain ⟨g,h1,h2,h3⟩:=h
 have h4:=(h3 _ (List.mem_cons_self ..)).2
 refine ⟨g,h1,h2.only hw (fun b hb=>by rw [hb];exact h4),fun z hz=>?_⟩
 rcases List.mem_cons.1 hz with q | q
 ·rw [q];exact ⟨ho,h4⟩
 ·have h5:=h3 z (List.mem_cons_of_mem _ q)
  exact ⟨(hw.block _ (lt_of_block h5.1) (hne z q)).trans h5.1,h5.2⟩
theorem cq_moves {g g':Cg} (hc:g'.c=c) (h3:∀z∈Q,w.heap[z.1]?=some z.2∧¬AllC V x g l z.1) (hv:Cav V w' g' most l' x' k') (hm:Sh.Moves (AllC V x g l) w (AllC V x' g' l') w'):CQ V w' c most l' x' k' Q :=
 ⟨g',hc,hv,fun z hz=>⟨(hm.1.block _ (lt_of_block (h3 z hz).1) (h3 z hz).2).trans (h3 z hz).1,fun e=>(hm.2 _ e).elim (h3 z hz).2 (fun e2=>absurd (lt_of_block (h3 z hz).1) (by omega))⟩⟩
theorem bytes_block {A:Option Addr} {X:Sh.Bs} (h:Sh.Bytes w w' A X):∃(ad:Addr) (o:Obj),A=some ad∧w.heap.size≤ad.block∧w'.heap[ad.block]?=some o:=by
 obtain ⟨ad,ha,hl,_⟩:=h.1.2 (by decide)
 exact ⟨ad,_,ha,(h.2 ad ha).1,Array.getElem?_eq_getElem hl⟩
theorem reads_at {B n:Nat} {A:Option Addr} {ad:Addr} {xs:List Value} {W:World} (h:Sh.Reads w B A n xs) (ha:A=some ad) (he:W.heap[ad.block]?=w.heap[ad.block]?):Sh.Reads W (ad.block+1) A n xs :=
 ⟨h.1,fun h0=>by
  obtain ⟨a2,h1,_,h3⟩:=h.2 h0
  rw [ha] at h1
  injection h1 with h1
  subst h1
  refine ⟨ad,ha,Nat.lt_succ_self _,fun j u hu=>?_⟩
  have:((ad.add j).block)=ad.block:=Sh.block_of_add ad j
  rw [World.cell?_of_block (w:=w) (a:=ad.add j) (by rw [this];exact he)]
  exact h3 j u hu⟩
def Got (V:VolK) (w w':World) (c most:Nat) (l:List En) (x:V.σ) (k:Nat) (Q:List (Nat × Obj)) (y:Int) (A:Option Addr) (len cap:Nat) (X:Sh.Bs):Prop :=
 (y=0∧len=128∧∃ad o,A=some ad∧Sh.Bytes w w' A X∧Sh.Sec X∧CQ V w' c most l x k ((ad.block,o) :: Q))∨(y≠0∧A=none∧len=0∧cap=0)
theorem CQ.get (h:CQ V w c most l x (k+2) Q) (n:Int):Calls Tryz.prog 16 #[.pointer (some ⟨c,0,none⟩),.int .i64 n] w fun r w' =>
  ∃(y:Int) (A:Option Addr) (len cap:Nat) (X:Sh.Bs) (l':List En) (x':V.σ),r=.returned (.tuple #[.slice A len cap,.int .i64 y])∧GetR V most n l x y X l' x'∧CQ V w' c most l' x' k Q∧Got V w w' c most l' x' k Q y A len cap X:=by
 obtain ⟨g,rfl,h2,h3⟩:=h
 refine (cGet h2 n).mono ?_
 rintro r w' ⟨y,A,len,cap,rfl,X,l',x',u,hg,hv,hm,hc⟩
 have hcq:CQ V w' g.c most l' x' k Q:=cq_moves (g:=g) (g':={ g with u:=u }) rfl h3 hv hm
 refine ⟨y,A,len,cap,X,l',x',rfl,hg,hcq,hc.imp (fun ⟨e1,e2,e3,e4,e5⟩=>⟨e1,e2,?_⟩) id⟩
 obtain ⟨ad,o,ha,_,ho⟩:=bytes_block e3
 refine ⟨ad,o,ha,e3,e4,{ g with u:=u },rfl,hv,fun z hz=>?_⟩
 rcases List.mem_cons.1 hz with q | q
 ·rw [q];exact ⟨ho,e5 ad ha⟩
 ·exact ⟨(hm.1.block _ (lt_of_block (h3 z q).1) (h3 z q).2).trans (h3 z q).1,fun e=>(hm.2 _ e).elim (h3 z q).2 (fun e2=>absurd (lt_of_block (h3 z q).1) (by omega))⟩
theorem CQ.put (h:CQ V w c most l x (k+1) Q) (n:Int) {b:Nat} (hb:b<256) {w0:World} (hw:Below w.heap.size w w0) (ho:w0.ownsRow w.heap.size 5 1 (.slice (some ⟨w.heap.size,0,none⟩) 128 128) 128 (Sh.bts (Sh.secOf b))) :
  Calls Tryz.prog 14 #[.pointer (some ⟨c,0,none⟩),.int .i64 n,.slice (some ⟨w.heap.size,0,none⟩) 128 128] w0 fun r w' =>
   ∃(y:Int) (l':List En) (x':V.σ),r=.returned (.int .i64 y)∧PutR V most n (Sh.secOf b) l x y l' x'∧CQ V w' c most l' x' k Q:=by
 obtain ⟨g,rfl,h2,h3⟩:=h
 have hbs:Sh.Beside w0 (AllC V x g l) (some ⟨w.heap.size,0,none⟩) (Sh.secOf b):=⟨Sh.Reads.of_own ho,fun a ha e=>by
  injection ha with ha
  subst ha
  exact Nat.lt_irrefl _ (h2.lt e)⟩
 refine (cPut (cp:=128) (h2.grown hw) n hbs (Sh.secOf_sec hb)).mono ?_
 rintro r w' ⟨y,l',x',rfl,hp,u,hv,hm⟩
 exact ⟨y,l',x',rfl,hp,cq_moves (g:=g) (g':={ g with u:=u }) rfl (fun z hz=>⟨(hw.block _ (lt_of_block (h3 z hz).1)).trans (h3 z hz).1,(h3 z hz).2⟩) hv hm⟩
theorem CQ.pin (h:CQ V w c most l x k Q) (n:Int) (hn:-9223372036854775808≤n∧n≤9223372036854775807) (hp:∀e∈l,e.pins<4611686018427387904):Calls Tryz.prog 20 #[.pointer (some ⟨c,0,none⟩),.int .i64 n] w fun r w' =>
  (finds l n=none∧r=.returned (.int .i64 7)∧w=w')∨∃e,finds l n=some e∧r=.returned (.int .i64 0)∧CQ V w' c most (putE l { e with pins:=e.pins+1 }) x k Q:=by
 obtain ⟨g,rfl,h2,h3⟩:=h
 refine (cPin h2 n hn hp).mono ?_
 rintro r w' (⟨h5,h6,h7⟩ | ⟨e,h5,h6,h7,h8⟩)
 ·exact .inl ⟨h5,h6,h7⟩
 ·exact .inr ⟨e,h5,h6,cq_moves rfl h3 h7 h8⟩
theorem CQ.unpin (h:CQ V w c most l x k Q) (n:Int) (hn:-9223372036854775808≤n∧n≤9223372036854775807):Calls Tryz.prog 22 #[.pointer (some ⟨c,0,none⟩),.int .i64 n] w fun r w' =>
  ((finds l n=none∨∃e,finds l n=some e∧e.pins=0)∧r=.returned (.int .i64 7)∧w=w')∨∃e,finds l n=some e∧e.pins≠0∧r=.returned (.int .i64 0)∧CQ V w' c most (putE l { e with pins:=e.pins-1 }) x k Q:=by
 obtain ⟨g,rfl,h2,h3⟩:=h
 refine (cUnpin h2 n hn).mono ?_
 rintro r w' (⟨h5,h6,h7⟩ | ⟨e,h5,h6,h7,h8,h9⟩)
 ·exact .inl ⟨h5,h6,h7⟩
 ·exact .inr ⟨e,h5,h6,h7,cq_moves rfl h3 h8 h9⟩
theorem CQ.unpin1 (h:CQ V w c most l x k Q) {m:Nat} (hm:m≤1024) {e:En} (hf:finds l (m:Int)=some e) (hp:e.pins≠0):Calls Tryz.prog 22 #[.pointer (some ⟨c,0,none⟩),.int .i64 (m:Int)] w fun r w' =>
  r=.returned (.int .i64 0)∧CQ V w' c most (putE l { e with pins:=e.pins-1 }) x k Q:=by
 refine (h.unpin (m:Int) ⟨by omega,by omega⟩).mono ?_
 rintro r w' (⟨h1 | ⟨e2,h1,h2⟩,_⟩ | ⟨e2,h1,_,h3,h4⟩)
 ·rw [hf] at h1;cases h1
 ·rw [hf] at h1;injection h1 with h1;subst h1;exact absurd h2 hp
 ·rw [hf] at h1;injection h1 with h1;subst h1;exact ⟨h3,h4⟩
theorem CQ.unpin0 (h:CQ V w c most l x k Q) {m:Nat} (hm:m≤1024) {e:En} (hf:finds l (m:Int)=some e) (hp:e.pins=0):Calls Tryz.prog 22 #[.pointer (some ⟨c,0,none⟩),.int .i64 (m:Int)] w fun r w' =>
  r=.returned (.int .i64 7)∧w=w':=by
 refine (h.unpin (m:Int) ⟨by omega,by omega⟩).mono ?_
 rintro r w' (⟨_,h3,h4⟩ | ⟨e2,h1,h2,_⟩)
 ·exact ⟨h3,h4⟩
 ·rw [hf] at h1;injection h1 with h1;subst h1;exact absurd hp h2
theorem CQ.pin1 (h:CQ V w c most l x k Q) {m:Nat} (hm:m≤1024) (hp:∀e∈l,e.pins<4611686018427387904) {e:En} (hf:finds l (m:Int)=some e):Calls Tryz.prog 20 #[.pointer (some ⟨c,0,none⟩),.int .i64 (m:Int)] w fun r w' =>
  r=.returned (.int .i64 0)∧CQ V w' c most (putE l { e with pins:=e.pins+1 }) x k Q:=by
 refine (h.pin (m:Int) ⟨by omega,by omega⟩ hp).mono ?_
 rintro r w' (⟨h1,_⟩ | ⟨e2,h1,h2,h3⟩)
 ·rw [hf] at h1;cases h1
 ·rw [hf] at h1;injection h1 with h1;subst h1;exact ⟨h2,h3⟩
theorem CQ.flush (h:CQ V w c most l x (k+1+(risesE fFlush l).length) Q):Calls Tryz.prog 17 #[.pointer (some ⟨c,0,none⟩)] w fun r w' =>
  ∃(y:Int) (l':List En) (x':V.σ),r=.returned (.int .i64 y)∧FlushR V l x y l' x'∧CQ V w' c most l' x' k Q:=by
 obtain ⟨g,rfl,h2,h3⟩:=h
 refine (cFlush h2).mono ?_
 rintro r w' ⟨y,l',x',rfl,hf,hv,hm⟩
 exact ⟨y,l',x',rfl,hf,cq_moves rfl h3 hv hm⟩
theorem CQ.blocks (h:CQ V w c most l x k Q):Calls Tryz.prog 23 #[.pointer (some ⟨c,0,none⟩)] w fun r w'=>∃v,r=.returned v∧w'.ownsRow w.heap.size 3 1 v l.length (keysV l)∧Below w.heap.size w w':=by
 obtain ⟨g,rfl,h2,_⟩:=h
 exact cBlocks h2.ca
theorem CQ.dirties (h:CQ V w c most l x k Q):Calls Tryz.prog 21 #[.pointer (some ⟨c,0,none⟩)] w fun r w'=>∃v,r=.returned v∧w'.ownsRow w.heap.size 3 1 v (risesE En.dirty l).length ((risesE En.dirty l).map (Value.int .i64))∧Below w.heap.size w w':=by
 obtain ⟨g,rfl,h2,_⟩:=h
 exact cDirty h2.ca
theorem CQ.vread (h:CQ V w c most l x (k+1) Q) (m:Nat) (hm:m<V.n):Calls Tryz.prog 13 #[.pointer (some ⟨V.v,0,none⟩),.int .i64 (m:Int)] w fun r w' =>
  ∃(y:Int) (A:Option Addr) (len cap:Nat) (X:Sh.Bs) (x':V.σ),r=.returned (.tuple #[.slice A len cap,.int .i64 y])∧V.rd x m y X x'∧CQ V w' c most l x' k Q∧Got V w w' c most l x' k Q y A len cap X:=by
 obtain ⟨g,rfl,h2,h3⟩:=h
 refine (V.read m h2.vol hm).mono ?_
 rintro r w' ⟨y,A,len,cap,X,x',rfl,hrd,hi,hmv,hc⟩
 obtain ⟨h5,h6⟩:=h2.moved hi hmv
 refine ⟨y,A,len,cap,X,x',rfl,hrd,cq_moves rfl h3 h5 h6,hc.imp (fun ⟨e1,e2,e3,e4,e5⟩=>⟨e1,e2,?_⟩) id⟩
 obtain ⟨ad,o,ha,hlo,ho⟩:=bytes_block e3
 refine ⟨ad,o,ha,e3,e4,g,rfl,h5,fun z hz=>?_⟩
 rcases List.mem_cons.1 hz with q | q
 ·rw [q]
  exact ⟨ho,fun e=>e.elim (e5 ad ha) (fun e2=>absurd (h2.ca.lt e2) (by omega))⟩
 ·exact ⟨(h6.1.block _ (lt_of_block (h3 z q).1) (h3 z q).2).trans (h3 z q).1,fun e=>(h6.2 _ e).elim (h3 z q).2 (fun e2=>absurd (lt_of_block (h3 z q).1) (by omega))⟩
theorem CQ.pnd {P:V.σ→Prop} {z:En} (h:CQ V w c most l x k Q) (hz:z∈l) (hp:z.pins≠0) (hP:P x):Pnd V P z l x:=by
 obtain ⟨g,rfl,h2,_⟩:=h
 exact h2.pnd hz hp hP
theorem CQ.len (h:CQ V w c most l x k Q):l.length≤most:=by
 obtain ⟨g,rfl,h2,_⟩:=h
 exact h2.ca.len
def SQ (Q:List (Nat × Obj)) (W:World):Prop:=∀z∈Q,W.heap[z.1]?=some z.2
theorem CQ.sq (h:CQ V w c most l x k Q):SQ Q w:=fun _ hz=>h.of hz
theorem SQ.tail {W:World} (h:SQ ((a,o) :: Q) W):SQ Q W:=fun z hz=>h z (List.mem_cons_of_mem _ hz)
theorem SQ.head {W:World} (h:SQ ((a,o) :: Q) W):W.heap[a]?=some o:=h _ (List.mem_cons_self ..)
theorem own_conv {B b:Nat} {bs:Sh.Bs} (h:w.ownsRow B 5 1 (.slice (some ⟨b,0,none⟩) 128 128) 128 (Sh.bts bs)):∃o:Obj,w.heap[b]?=some o∧∀W:World,W.heap[b]?=some o→∀s,Sh.strL bs=s→(convert 40 9 (.slice (some ⟨b,0,none⟩) 128 128)).run Tryz.prog W=.ok (.string s) W:=by
 have hl:=(h.lt b rfl).2
 refine ⟨_,Array.getElem?_eq_getElem hl,fun W hW s hs=>?_⟩
 rw [← hs]
 exact Sh.run_str 128 (reads_at (ad:=⟨b,0,none⟩) (Sh.Reads.of_own h) rfl (by rw [hW];exact (Array.getElem?_eq_getElem hl).symm))
theorem got_conv {w0:World} {A:Option Addr} {ad:Addr} {bs:Sh.Bs} (h:Sh.Bytes w0 w A bs) (ha:A=some ad) (ho:w.heap[ad.block]?=some o):∀W:World,W.heap[ad.block]?=some o→∀(cp:Nat) (s:ByteArray),Sh.strL bs=s→(convert 40 9 (.slice A 128 cp)).run Tryz.prog W=.ok (.string s) W:=by
 intro W hW cp s hs
 rw [← hs]
 exact Sh.run_str cp (reads_at h.1 ha (by rw [hW,ho]))
end
end Go.Proofs.YtepoepmndckmaaaGreatDoor.Kc
namespace Go.Proofs.YtepoepmndckmaaaGreatDoor.U
open Go.RowKit Go.Maps
open Go.Proofs.YtepoepmndckmaaaGreatDoor.Kc (En Cg Cav CQ)
def pairO (c xr:Nat):Obj:=.cells #[.pointer (some ⟨c,0,none⟩),.pointer (some ⟨xr,0,none⟩)] 39 (0,0)
theorem pair_cell {w:World} {q c xr:Nat} (h:w.heap[q]?=some (pairO c xr)):w.cell? ⟨q,0,none⟩=some (.pointer (some ⟨c,0,none⟩)):=by
 rw [cell_of_row _ _ 0 _ _ _ h]
 rfl
theorem Beg.cq {w w':World} {J:Vk} {hG:Giv J ar10} {hN:ar10.St*(ar10.M-1)≤1073741824} {q xr n:Nat} {g:Cg} {x:Rs} (h:Beg w J hG hN q xr g x n w'):CQ (Hv J ar10 hG hN) w' g.c n [] x 390000 [(q,pairO g.c xr)] :=
 ⟨g,rfl,h.cav,fun z hz=>by
  rw [List.mem_singleton.1 hz]
  exact ⟨h.pair,fun e=>by
   have h1:=h.out q e
   have h2:=h.lt
   omega⟩⟩
theorem cq_below {w w':World} {J:Vk} {hG:Giv J ar10} {hN:ar10.St*(ar10.M-1)≤1073741824} {c n k:Nat} {l:List En} {x:Rs} {Q:List (Nat × Obj)} (h:CQ (Hv J ar10 hG hN) w' c n l x k Q) (hB:J.B=w.heap.size) (hW:J.W=w):Below w.heap.size w w':=by
 obtain ⟨g,_,h2,_⟩:=h
 have:=(h2.vol:IsR J ar10 w' x k).vr.bel
 rw [hB,hW] at this
 exact this
end Go.Proofs.YtepoepmndckmaaaGreatDoor.U
namespace Go.Proofs.YtepoepmndckmaaaGreatDoor.Kc
open Go.RowKit Go.Maps
def rowI (l:List Int):Obj:=.cells (l.map (Value.int .i64)).toArray 3 (0,0)
def rowB (l:List Bool):Obj:=.cells (l.map Value.bool).toArray 4 (0,0)
section
variable {w:World} {g k:Nat}
theorem rowI_cell {l:List Int} (h:w.heap[g]?=some (rowI l)) (hk:k<l.length):w.cell? ⟨g,k,none⟩=some (.int .i64 (l.getD k 0)):=by
 rw [cell_of_row _ _ k _ _ _ h]
 simp [List.getD_eq_getElem?_getD,hk]
theorem rowI_free {l:List Int} (h:w.heap[g]?=some (rowI l)):w.frozen? ⟨g,k,none⟩=false:=frozen_of_row _ _ _ _ _ h
theorem rowI_set {l:List Int} (h:w.heap[g]?=some (rowI l)) (z:Int):(w.setCell ⟨g,k,none⟩ (.int .i64 z)).heap[g]?=some (rowI (l.set k z)):=by
 rw [heap_setCell_same _ _ _ _ _ _ h]
 unfold rowI
 congr 2
 apply Array.toList_inj.1
 simp [List.map_set]
theorem rowB_cell {l:List Bool} (h:w.heap[g]?=some (rowB l)) (hk:k<l.length):w.cell? ⟨g,k,none⟩=some (.bool (l.getD k false)):=by
 rw [cell_of_row _ _ k _ _ _ h]
 simp [List.getD_eq_getElem?_getD,hk]
theorem rowB_free {l:List Bool} (h:w.heap[g]?=some (rowB l)):w.frozen? ⟨g,k,none⟩=false:=frozen_of_row _ _ _ _ _ h
theorem rowB_set {l:List Bool} (h:w.heap[g]?=some (rowB l)) (z:Bool):(w.setCell ⟨g,k,none⟩ (.bool z)).heap[g]?=some (rowB (l.set k z)):=by
 rw [heap_setCell_same _ _ _ _ _ _ h]
 unfold rowB
 congr 2
 apply Array.toList_inj.1
 simp [List.map_set]
theorem set_only (v:Value):Sh.Only (fun b=>b=g) w (w.setCell ⟨g,k,none⟩ v):=(Sh.Only.refl (fun b=>b=g) w).setCell (p:=⟨g,k,none⟩) (.inl rfl) v
theorem own_block {B n:Nat} {v:Value} {xs:List Value} {t:TypeId} (h:w.ownsRow B t 1 v n xs) (hn:0<n):∃(b cap:Nat) (o:Obj),v=.slice (some ⟨b,0,none⟩) n cap∧B≤b∧w.heap[b]?=some o ∧
  ∀W:World,W.heap[b]?=some o→∀j u,xs[j]?=some u→W.cell? ⟨b,j,none⟩=some u:=by
 obtain ⟨b,cap,rfl,hlt,_,_⟩:=Sh.own_form h hn
 have hl:=(h.lt b rfl).1
 refine ⟨b,cap,_,rfl,hl,Array.getElem?_eq_getElem hlt,fun W hW j u hu=>?_⟩
 rw [World.cell?_of_block (w:=w) (a:=⟨b,j,none⟩) (by rw [hW];exact (Array.getElem?_eq_getElem hlt).symm)]
 exact Sh.cell_at h hu
end
def keptL (l:List En) (t:Nat):List Bool:=(List.range 12).map fun a=>(l.take t).any fun e=>decide (e.k=a)
theorem keptL_length (l:List En) (t:Nat):(keptL l t).length=12:=by simp [keptL]
theorem keptL_get {l:List En} {t a:Nat} (ha:a<12):(keptL l t).getD a false=(l.take t).any fun e=>decide (e.k=a):=by
 unfold keptL
 rw [List.getD_eq_getElem?_getD,List.getElem?_map,List.getElem?_range ha]
 rfl
theorem keptL_zero (l:List En):keptL l 0=List.replicate 12 false:=by
 unfold keptL
 simp [List.take_zero,List.map_const']
theorem keptL_succ {l:List En} {t:Nat} (ht:t<l.length):keptL l (t+1)=(keptL l t).set (l[t].k) true:=by
 apply List.ext_getElem?
 intro a
 by_cases ha:a<12
 ·have h1:(keptL l (t+1))[a]?=some ((keptL l (t+1)).getD a false):=by
   rw [List.getD_eq_getElem?_getD,List.getElem?_eq_getElem (by rw [keptL_length];exact ha)];rfl
  have h2:((keptL l t).set (l[t].k) true)[a]?=some (((keptL l t).set (l[t].k) true).getD a false):=by
   rw [List.getD_eq_getElem?_getD,List.getElem?_eq_getElem (by rw [List.length_set,keptL_length];exact ha)];rfl
  rw [h1,h2,keptL_get ha,List.take_succ_eq_append_getElem ht,List.any_append]
  by_cases hk:l[t].k=a
  ·subst hk
   rw [List.getD_eq_getElem?_getD,List.getElem?_set_self (by rw [keptL_length];exact ha)]
   simp
  ·rw [List.getD_eq_getElem?_getD,List.getElem?_set_ne hk,← List.getD_eq_getElem?_getD,keptL_get ha]
   simp [hk]
 ·rw [List.getElem?_eq_none (by rw [keptL_length];omega),List.getElem?_eq_none (by rw [List.length_set,keptL_length];omega)]
theorem keptL_all {l:List En} {a:Nat} (ha:a<12):(keptL l l.length).getD a false=l.any fun e=>decide (e.k=a):=by
 rw [keptL_get ha,List.take_length]
theorem tmod12 (z:Int):∃k:Nat,k<12∧((z.tmod 12<0∧-(z.tmod 12)=(k:Int)∧-12≤z.tmod 12)∨(¬z.tmod 12<0∧z.tmod 12=(k:Int))):=by
 have h1:=Int.tmod_lt_of_pos z (show (0:Int)<12 by decide)
 have h2:=Int.lt_tmod_of_pos z (show (0:Int)<12 by decide)
 by_cases h:z.tmod 12<0
 ·exact ⟨(-(z.tmod 12)).toNat,by omega,.inl ⟨h,by omega,by omega⟩⟩
 ·exact ⟨(z.tmod 12).toNat,by omega,.inr ⟨h,by omega⟩⟩
theorem most_of (mo d:Int) (hd:0<d) (hd2:d<1000):∃n:Nat,1≤n∧(n:Int)≤d∧((mo<0∧n=1)∨(0≤mo∧wrap64 (1+mo.tmod d)=(n:Int))):=by
 by_cases h:mo<0
 ·exact ⟨1,Nat.le_refl _,by omega,.inl ⟨h,rfl⟩⟩
 ·have h1:=Int.tmod_lt_of_pos mo hd
  have h2:=Int.tmod_nonneg d (show 0≤mo by omega)
  exact ⟨(1+mo.tmod d).toNat,by omega,by omega,.inr ⟨by omega,by unfold wrap64;omega⟩⟩
def lFull (p:Nat→Nat) (j:Nat):List En:=(List.range j).map fun i=>⟨i,p i,Sh.secOf 9,true,1⟩
theorem lFull_length (p:Nat→Nat) (j:Nat):(lFull p j).length=j:=by simp [lFull]
theorem lFull_mem {p:Nat→Nat} {j:Nat} {e:En} (h:e∈lFull p j):e.k<j∧e.pins=1∧e.d=Sh.secOf 9:=by
 obtain ⟨i,hi,rfl⟩:=List.mem_map.1 h
 exact ⟨List.mem_range.1 hi,rfl,rfl⟩
theorem finds_far {l:List En} {n:Nat} {z:Int} (h:∀e∈l,e.k<n) (hz:(n:Int)≤z):finds l z=none:=by
 unfold finds
 rw [List.find?_eq_none]
 intro e he
 have:=h e he
 simp
 omega
theorem lFull_none (p:Nat→Nat) (j:Nat):finds (lFull p j) (j:Int)=none:=finds_far (fun _ he=>(lFull_mem he).1) (Int.le_refl _)
theorem lFull_far (p:Nat→Nat) (j:Nat) (hj:j≤10):finds (lFull p j) 11=none:=finds_far (fun _ he=>(lFull_mem he).1) (by omega)
theorem lFull_pins (p:Nat→Nat) (j:Nat):∀e∈lFull p j,e.pins≠0:=fun e he=>by rw [(lFull_mem he).2.1];decide
theorem lFull_succ (p:Nat→Nat) (j a:Nat):lFull (fun i=>if i=j then a else p i) (j+1)=putE (lFull p j++[⟨j,a,Sh.secOf 9,true,0⟩]) ⟨j,a,Sh.secOf 9,true,1⟩:=by
 unfold lFull putE
 rw [List.range_succ,List.map_append,List.map_append,List.map_map]
 congr 1
 ·apply List.map_congr_left
  intro i hi
  have:=List.mem_range.1 hi
  have h:i≠j:=by omega
  simp [h]
 ·simp
theorem lFull_at (p:Nat→Nat) (j a:Nat):finds (lFull p j++[⟨j,a,Sh.secOf 9,true,0⟩]) (j:Int)=some ⟨j,a,Sh.secOf 9,true,0⟩:=by
 rw [finds_snoc (fun z hz=>by have:=(lFull_mem hz).1;show z.k≠j;omega),if_pos rfl]
theorem lFull_zero (p:Nat→Nat) (j:Nat) (hj:0<j):finds (lFull p j) 0=some ⟨0,p 0,Sh.secOf 9,true,1⟩:=by
 obtain ⟨k,rfl⟩:∃k,j=k+1:=⟨j-1,by omega⟩
 unfold finds lFull
 rw [List.range_succ_eq_map]
 simp
theorem pin_one {V:VolK} {w:World} {c most j a k:Nat} {pp:Nat→Nat} {x:V.σ} {Q:List (Nat × Obj)} (h:CQ V w c most (lFull pp j++[⟨j,a,Sh.secOf 9,true,0⟩]) x k Q) (hj:j≤10):Calls Tryz.prog 20 #[.pointer (some ⟨c,0,none⟩),.int .i64 (j:Int)] w fun r w' =>
  r=.returned (.int .i64 0)∧CQ V w' c most (lFull (fun i=>if i=j then a else pp i) (j+1)) x k Q:=by
 refine (h.pin (j:Int) ⟨by omega,by omega⟩ (fun e he=>?_)).mono ?_
 ·rcases List.mem_append.1 he with he | he
  ·rw [(lFull_mem he).2.1]
   decide
  ·rw [List.mem_singleton.1 he]
   show (0:Nat)<4611686018427387904
   decide
 ·rintro r w' (⟨h1,_,_⟩ | ⟨e,h1,rfl,h2⟩)
  ·rw [lFull_at] at h1;cases h1
  ·rw [lFull_at] at h1
   injection h1 with h1
   subst h1
   rw [lFull_succ]
   exact ⟨rfl,h2⟩
structure FullI (n:Nat) (l:List En):Prop where
 len:l.length=n
 pins:∀e∈l,e.pins=1
 lows:∀e∈l,e.k<n
 all:∀i,i<n→∃e∈l,e.k=i
 keys:(l.map En.k).Nodup
theorem lFull_keys (p:Nat→Nat) (j:Nat):(lFull p j).map En.k=List.range j:=by
 unfold lFull
 rw [List.map_map]
 exact List.map_id _
theorem lFull_full (p:Nat→Nat) (j:Nat):FullI j (lFull p j) :=
 ⟨lFull_length p j,fun _ he=>(lFull_mem he).2.1,fun _ he=>(lFull_mem he).1,fun i hi=>⟨_,List.mem_map.2 ⟨i,List.mem_range.2 hi,rfl⟩,rfl⟩,by rw [lFull_keys];exact List.nodup_range⟩
theorem dropE_length {l:List En} (hn:(l.map En.k).Nodup) {e:En} (he:e∈l):(dropE l e.k).length+1=l.length:=by
 obtain ⟨i,hi,hie⟩:=List.getElem_of_mem he
 have:=dropE_at hn (i:=i) (e:=e) (by rw [List.getElem?_eq_getElem hi,hie])
 rw [this]
 simp
 omega
theorem FullI.use {n:Nat} {l:List En} (h:FullI n l) {e:En} (he:e∈l):FullI n (useE l e):=by
 have hm:∀z,z∈useE l e↔z∈l:=fun z=>by
  unfold useE
  rw [List.mem_append,mem_dropE,List.mem_singleton]
  refine ⟨fun q=>q.elim And.left (fun q=>by rw [q];exact he),fun q=>?_⟩
  by_cases hk:z.k=e.k
  ·exact .inr (one_of_key h.keys q he hk)
  ·exact .inl ⟨q,hk⟩
 refine ⟨?_,fun z hz=>h.pins z ((hm z).1 hz),fun z hz=>h.lows z ((hm z).1 hz),fun i hi=>?_,nodup_snoc (nodup_drop h.keys _) fun a ha=>(mem_dropE.1 ha).2⟩
 ·unfold useE
  rw [List.length_append,List.length_singleton,dropE_length h.keys he,h.len]
 ·obtain ⟨z,hz,hk⟩:=h.all i hi
  exact ⟨z,(hm z).2 hz,hk⟩
theorem FullI.free {n k:Nat} {l:List En} (h:FullI n l) {e:En} (he:finds l (k:Int)=some e) (hn:n≤10) :
  finds (putE l { e with pins:=e.pins-1 }) 11=none∧¬(putE l { e with pins:=e.pins-1 }).length<n∧∃e2,(putE l { e with pins:=e.pins-1 })[firstE (putE l { e with pins:=e.pins-1 })]?=some e2∧e2.pins=0∧e2.k=k ∧
   ∀z:En,z.k=11→(dropE (putE l { e with pins:=e.pins-1 }) e2.k++[z]).length=n∧(∀a∈dropE (putE l { e with pins:=e.pins-1 }) e2.k++[z],a.k≠k):=by
 obtain ⟨hin,hek⟩:=finds_some he
 have hkk:e.k=k:=by omega
 have hp1:=h.pins e hin
 have hlow:∀a∈putE l { e with pins:=e.pins-1 },a.k<n:=fun a ha=>by
  rcases mem_putE ha with q | q
  ·rw [q];exact h.lows e hin
  ·exact h.lows a q.1
 have hmem:({ e with pins:=e.pins-1 }:En)∈putE l { e with pins:=e.pins-1 }:=by
  unfold putE
  exact List.mem_map.2 ⟨e,hin,if_pos rfl⟩
 have hkeys:((putE l { e with pins:=e.pins-1 }).map En.k).Nodup:=by rw [putE_keys];exact h.keys
 have hone:∀a∈putE l { e with pins:=e.pins-1 },a.pins=0→a.k=k:=fun a ha h0=>by
  rcases mem_putE ha with q | q
  ·rw [q];exact hkk
  ·have:=h.pins a q.1;omega
 have hlt:firstE (putE l { e with pins:=e.pins-1 })<(putE l { e with pins:=e.pins-1 }).length:=List.findIdx_lt_length_of_exists ⟨_,hmem,by simp [hp1]⟩
 have hz:decide ((putE l { e with pins:=e.pins-1 })[firstE (putE l { e with pins:=e.pins-1 })].pins=0)=true:=List.findIdx_getElem (p:=fun z:En=>decide (z.pins=0)) (w:=hlt)
 have hz2:(putE l { e with pins:=e.pins-1 })[firstE (putE l { e with pins:=e.pins-1 })].pins=0:=by simpa using hz
 have hk2:=hone _ (List.getElem_mem hlt) hz2
 refine ⟨finds_far hlow (by omega),by rw [putE_length,h.len];exact Nat.lt_irrefl _,_,List.getElem?_eq_getElem hlt,hz2,hk2,fun z hz=>⟨?_,fun a ha=>?_⟩⟩
 ·rw [List.length_append,List.length_singleton,dropE_length hkeys (List.getElem_mem hlt),putE_length,h.len]
 ·rcases List.mem_append.1 ha with q | q
  ·rw [← hk2];exact (mem_dropE.1 q).2
  ·rw [List.mem_singleton.1 q,hz]
   have:=h.lows e hin
   omega
theorem FullI.finds {n k:Nat} {l:List En} (h:FullI n l) (hk:k<n):∃e,finds l (k:Int)=some e∧e.pins=1:=by
 obtain ⟨e,he,hek⟩:=h.all k hk
 exact ⟨e,by rw [← hek];exact finds_mem h.keys he,h.pins e he⟩
theorem tmodn (z:Int) (n:Nat) (hn:0<n):∃k:Nat,k<n∧((z.tmod n<0∧-(z.tmod n)=(k:Int)∧-(n:Int)≤z.tmod n)∨(¬z.tmod n<0∧z.tmod n=(k:Int))):=by
 have h1:=Int.tmod_lt_of_pos z (show (0:Int)<n by omega)
 have h2:=Int.lt_tmod_of_pos z (show (0:Int)<n by omega)
 by_cases h:z.tmod n<0
 ·exact ⟨(-(z.tmod n)).toNat,by omega,.inl ⟨h,by omega,by omega⟩⟩
 ·exact ⟨(z.tmod n).toNat,by omega,.inr ⟨h,by omega⟩⟩
def SameW (a b:World):Prop:=a=b
section
variable {V:VolK} {P:V.σ→Prop} {l l':List En} {x x':V.σ} {y:Int} {z:En}
theorem Leaves.wbs (hV:Okv V) (hL:Leaves V z.k P) (hwr:∀{x x'},V.wr x z.k z.d 0 x'→P x') {ks:List Int} (h:WbsR V ks l x y l' x') (hlow:∀e∈l,e.k<V.n) (hk:(l.map En.k).Nodup) (hz:∃e∈l,e.k=z.k∧e.d=z.d∧(((z.k:Int)∈ks∧e.dirty=true)∨P x)):P x':=by
 induction h with
 | nil _ _ =>
  obtain ⟨e,_,_,_,⟨q,_⟩ | q⟩:=hz
  ·cases q
  ·exact q
 | no _ _ _ _ _ _ _ _ hw hne=>exact absurd (hV.wb hw) hne
 | next q t l x e e1 x1 _ _ _ hf hw _ ih =>
  obtain ⟨he,heq⟩:=finds_some hf
  obtain ⟨e0,h0,hk0,hd0,hP⟩:=hz
  have hk1:e1.k=e.k:=by cases hw<;>rfl
  have hlow1:∀a∈putE l e1,a.k<V.n:=fun a ha=>by
   rcases mem_putE ha with q2 | q2
   ·rw [q2,hk1];exact hlow e he
   ·exact hlow a q2.1
  refine ih hlow1 (by rw [putE_keys];exact hk) ?_
  by_cases hq:e.k=z.k
  ·have hee:e=e0:=one_of_key hk he h0 (hq.trans hk0.symm)
   subst hee
   refine ⟨e1,?_,hk1.trans hq,?_,.inr ?_⟩
   ·unfold putE
    exact List.mem_map.2 ⟨e,he,by rw [if_pos hk1.symm]⟩
   ·cases hw<;>exact hd0
   ·cases hw with
    | clean hc =>
     rcases hP with ⟨_,hd⟩ | hP
     ·rw [hd] at hc;cases hc
     ·exact hP
    | no _ _ _ _ hne=>exact absurd rfl hne
    | done _ _ h3=>rw [hq,hd0] at h3;exact hwr h3
  ·refine ⟨e0,?_,hk0,hd0,hP.imp (fun ⟨q1,q2⟩=>⟨?_,q2⟩) (fun q1=>(hL.wb hw (hlow e he) hq q1).1)⟩
   ·unfold putE
    exact List.mem_map.2 ⟨e0,h0,by rw [if_neg (by rw [hk1,hk0];exact Ne.symm hq)]⟩
   ·rcases List.mem_cons.1 q1 with q3 | q3
    ·exact absurd (by omega) hq
    ·exact q3
theorem Leaves.flush (hV:Okv V) (hL:Leaves V z.k P) (hwr:∀{x x'},V.wr x z.k z.d 0 x'→P x') (h:FlushR V l x y l' x') (hlow:∀e∈l,e.k<V.n) (hk:(l.map En.k).Nodup) (hz:z∈l) (hd:z.dirty=true) (hp:z.pins=0):y=0∧P x':=by
 obtain ⟨hy,x1,h1,h2⟩:=hV.flush h
 refine ⟨hy,hL.fl h2 (hL.wbs hV hwr h1 hlow hk ⟨z,hz,rfl,rfl,.inl ⟨?_,hd⟩⟩)⟩
 unfold risesE
 rw [List.mem_mergeSort]
 exact List.mem_map.2 ⟨z,List.mem_filter.2 ⟨hz,by unfold fFlush;simp [hd,hp]⟩,rfl⟩
theorem most_of2 (mo d:Int) (hd:0<d) (hd2:d<1000):∃n:Nat,2≤n∧(n:Int)≤d+1∧((mo<0∧n=2)∨(0≤mo∧wrap64 (2+mo.tmod d)=(n:Int))):=by
 by_cases h:mo<0
 ·exact ⟨2,Nat.le_refl _,by omega,.inl ⟨h,rfl⟩⟩
 ·have h1:=Int.tmod_lt_of_pos mo hd
  have h2:=Int.tmod_nonneg d (show 0≤mo by omega)
  exact ⟨(2+mo.tmod d).toNat,by omega,by omega,.inr ⟨by omega,by unfold wrap64;omega⟩⟩
theorem dirty_in (hz:z∈l) (hd:z.dirty=true):(z.k:Int)∈risesE En.dirty l:=by
 unfold risesE
 rw [List.mem_mergeSort]
 exact List.mem_map.2 ⟨z,List.mem_filter.2 ⟨hz,hd⟩,rfl⟩
end
end Go.Proofs.YtepoepmndckmaaaGreatDoor.Kc
namespace Go.Proofs.YtepoepmndckmaaaGreatDoor.U
open Go.RowKit Go.Maps
theorem hv_leaves {J:Vk} {hG:Giv J ar10} {hN:ar10.St*(ar10.M-1)≤1073741824} (k:Nat) (hk:k<12) (b:Sh.Bs):Go.Proofs.YtepoepmndckmaaaGreatDoor.Kc.Leaves (Hv J ar10 hG hN) k (fun x:Rs=>contR ar10 x k=b) :=
 ⟨fun h hP=>(h.2.2 k).trans hP,fun h _ hm hP=>by rw [h.2 k hk,if_neg (Ne.symm hm)];exact hP,fun h hP=>(h.2 k).trans hP⟩
structure IsO (J:Vk) (A:Ar) (w:World) (x:Rs) (k:Nat):Prop where
 vr:Vr J w A.s x.o x.S x.F x.D x.U
 inv:∃may,Inv A x.S x.o x.g x.D x.U may true∧(x.S.off=false→LastOk A x.g may)
 few:∃m,Few x.S x.D x.U m∧m+1000*k≤400000000
section
variable {J:Vk} {A:Ar} {w w':World} {x:Rs} {k:Nat}
theorem IsO.fits (h:IsO J A w x k) (hG:Giv J A):Fits J.n J.L A.s A.M A.St x.S:=by
 obtain ⟨may,hi,_⟩:=h.inv
 rw [← hG.n,← hG.l]
 exact fits_ci hi.ci hG.said
theorem IsO.lt (h:IsO J A w x k):∀b,ownR J x.F b→b<w.heap.size:=by
 rintro b (e | e | ⟨i,hi,rfl⟩)
 ·exact Nat.lt_of_lt_of_le e h.vr.size
 ·exact h.vr.lt b e
 ·exact gn_lt h.vr hi
theorem IsO.stays {X:Nat→Prop} (h:IsO J A w x k) (ho:Sh.Only X w w') (hX:∀b,X b→¬ownR J x.F b):IsO J A w' x k :=
 ⟨h.vr.only_tab2 ho (fun b hb e=>hX b e (.inr (.inl hb))) (h.vr.bel.trans (ho.below (fun b hb=>Nat.le_of_not_lt fun e=>hX b hb (.inl e)) h.vr.size)) (fun i hi=>ho.block _ (gn_lt h.vr hi) fun e=>hX _ e (.inr (.inr ⟨i,hi,rfl⟩))),h.inv,h.few⟩
theorem IsO.less (h:IsO J A w x k) {k':Nat} (hk:k'≤k):IsO J A w x k':=by
 obtain ⟨m,h1,h2⟩:=h.few
 exact ⟨h.vr,h.inv,m,h1,by omega⟩
theorem IsR.toO (h:IsR J A w x k) (hG:Giv J A):IsO J A w x k :=
 ⟨h.vr,⟨fun m=>(match x.g.op (stOf A.M m) with | some (_,old)=>[old] | none=>[])++[x.g.dat (stOf A.M m) (meOf A.M m)],⟨h.oi.fi.ci,hG.said,h.ld,(fun e=>by cases e),fun m _=>⟨List.mem_append_right _ (List.mem_singleton.2 rfl),fun old ho=>by rw [ho];exact List.mem_append_left _ (List.mem_singleton.2 rfl)⟩,fun _=>h.oi⟩,fun _ m _=>⟨by simp,by simp [List.getD_eq_getElem?_getD]⟩⟩,h.few⟩
theorem IsO.size (h:IsO J A w x k) (hG:Giv J A):Calls Tryz.prog 29 #[.pointer (some ⟨J.v,0,none⟩)] w fun e w'=>e=.returned (.int .i64 ((A.St*(A.M-1):Nat):Int))∧Below w.heap.size w w':=vsize h.vr (h.fits hG)
def rdO (A:Ar) (x:Rs) (m:Nat) (y:Int) (X:Sh.Bs) (x':Rs):Prop:=(y=0∧x.S.off=false∧X=contR A x m∧(∀j,contR A x' j=contR A x j)∧x'.S.off=false)∨(y=3∧x.S.off=true∧x'.S.off=true)
def wrO (A:Ar) (x:Rs) (m:Nat) (b:Sh.Bs) (y:Int) (x':Rs):Prop:=(y=0∧x.S.off=false∧(x'.S.off=false→∀j,j<A.St*(A.M-1)→contR A x' j=if j=m then b else contR A x j))∨(y=3∧x'.S.off=true)
def flO (A:Ar) (x:Rs) (y:Int) (x':Rs):Prop:=(y=0∧(x'.S.off=false→x.S.off=false∧∀j,j<A.St*(A.M-1)→contR A x' j=contR A x j))∨(y=3∧x'.S.off=true)
theorem IsO.read (h:IsO J A w x (k+1)) (hG:Giv J A) (m:Nat) (hm:m<A.St*(A.M-1)):Calls Tryz.prog 13 #[.pointer (some ⟨J.v,0,none⟩),.int .i64 (m:Int)] w fun e w' =>
  ∃(y:Int) (a:Option Addr) (len cap:Nat) (X:Sh.Bs) (x':Rs),e=.returned (.tuple #[.slice a len cap,.int .i64 y])∧rdO A x m y X x'∧IsO J A w' x' k∧Sh.Moves (ownR J x.F) w (ownR J x'.F) w' ∧
   ((y=0∧len=128∧Sh.Bytes w w' a X∧Sh.Sec X∧∀ad,a=some ad→¬ownR J x'.F ad.block)∨(y≠0∧a=none∧len=0∧cap=0)):=by
 obtain ⟨mm,hf,hmm⟩:=h.few
 obtain ⟨may,hi,hl⟩:=h.inv
 refine (vRead_any h.vr (h.fits hG) hG.tabs hG.tb (m:Int) hf.waits (by omega)).mono ?_
 rintro e w' ⟨y,a,len,cap,rfl,X,t,F',hR,hV,hmv,hcase⟩
 have hR2:RdR A.L A.s A.M A.St (m:Int) x.S x.o y X t:=by rw [hG.l];exact hR
 have hcase2:(y=0∧len=128∧Sh.Bytes w w' a X∧Sh.Sec X∧∀ad,a=some ad→¬ownR J F' ad.block)∨(y≠0∧a=none∧len=0∧cap=0):=by
  rcases hcase with ⟨e1,e2,hb,hs,hno⟩ | q
  ·refine .inl ⟨e1,e2,hb,hs,fun ad ha e=>?_⟩
   rcases e with e | e | ⟨i,hi,e⟩
   ·have:=(hb.2 ad ha).1
    have:=h.vr.size
    omega
   ·exact hno ad ha e
   ·have:=(hb.2 ad ha).1
    have:=gn_lt h.vr hi
    omega
  ·exact .inr q
 by_cases hon:x.S.off=false
 ·obtain ⟨hy,hX,hi2,hon2⟩:=hi.read hon hm hR2
  exact ⟨y,a,len,cap,X,⟨t.S,t.o,F',x.D,x.U,x.g⟩,rfl,.inl ⟨hy,hon,hX,fun _=>rfl,hon2⟩,⟨hV,⟨may,hi2,fun _=>hl hon⟩,mm+1000,hf.read hR2,by omega⟩,movesR hmv,hcase2⟩
 ·obtain ⟨rfl,hy⟩:=read_off hon hR2
  have hoff:x.S.off=true:=by simpa using hon
  exact ⟨y,a,len,cap,X,⟨x.S,x.o,F',x.D,x.U,x.g⟩,rfl,.inr ⟨hy ⟨by omega,by omega⟩,hoff,hoff⟩,⟨hV,⟨may,hi,hl⟩,mm+1000,hf.more (by omega),by omega⟩,movesR hmv,hcase2⟩
theorem last_push {may:Nat→List Sh.Bs} {g g':Gh} {m j:Nat} {b:Sh.Bs} (h:LastOk A g may) (h':LastOk A g' (pushM may m b)) (hj:j<A.St*(A.M-1)):g'.dat (stOf A.M j) (meOf A.M j)=if j=m then b else g.dat (stOf A.M j) (meOf A.M j):=by
 rw [← (h' j hj).2,← (h j hj).2]
 unfold pushM
 by_cases e:j=m
 ·rw [if_pos e,if_pos e]
  simp [List.getD_eq_getElem?_getD]
 ·rw [if_neg e,if_neg e]
theorem last_trim {may:Nat→List Sh.Bs} {g g':Gh} {j:Nat} (h:LastOk A g may) (h':LastOk A g' (trimAll may)) (hj:j<A.St*(A.M-1)):g'.dat (stOf A.M j) (meOf A.M j)=g.dat (stOf A.M j) (meOf A.M j):=by
 rw [← (h' j hj).2,← (h j hj).2]
 unfold trimAll
 rw [drop_last (h j hj).1]
 rfl
theorem IsO.write (h:IsO J A w x (k+1)) (hG:Giv J A) (m:Nat) {a:Option Addr} {b:Sh.Bs} (c:Nat) (hm:m<A.St*(A.M-1)) (hA:Sh.Beside w (ownR J x.F) a b) (hb:Sh.Sec b):Calls Tryz.prog 83 #[.pointer (some ⟨J.v,0,none⟩),.int .i64 (m:Int),.slice a 128 c] w fun e w' =>
  ∃(y:Int) (x':Rs),e=.returned (.int .i64 y)∧wrO A x m b y x'∧IsO J A w' x' k∧Sh.Moves (ownR J x.F) w (ownR J x'.F) w':=by
 obtain ⟨mm,hf,hmm⟩:=h.few
 obtain ⟨may,hi,hl⟩:=h.inv
 refine (vWrite_any h.vr (h.fits hG) hG.tabs hG.tb hG.flds hG.fb (m:Int) hb (besideR hA) hf.waits hf.opens.2 hf.used (by omega)).mono ?_
 rintro e w' ⟨y,rfl,t,D',U',hW,F',hV,hmv⟩
 have hW2:WrR A.n A.L A.s A.M A.St (m:Int) b x.D x.U x.S x.o y t D' U':=by rw [hG.n,hG.l];exact hW
 have hfew:=hf.write h.vr.used (by rw [hG.n.symm];have:=hG.said.m16;have:=(h.fits hG).cnt;have:=hG.n;omega) (h.fits hG).l2 hW
 by_cases hon:x.S.off=false
 ·obtain ⟨g',hi2,hy⟩:=hi.write (hl hon) hon (isMap_set h.vr.opens) (isMap_set h.vr.used) hm hb hW2
  rcases hy with ⟨hy,hl2⟩ | ⟨hy,hoff⟩
  ·exact ⟨y,⟨t.S,t.o,F',D',U',g'⟩,rfl,.inl ⟨hy,hon,fun e j hj=>last_push (hl hon) (hl2 e) hj⟩,⟨hV,⟨_,hi2,hl2⟩,mm+1000,hfew,by omega⟩,movesR hmv⟩
  ·exact ⟨y,⟨t.S,t.o,F',D',U',g'⟩,rfl,.inr ⟨hy,by simpa using hoff⟩,⟨hV,⟨_,hi2,fun e=>absurd e hoff⟩,mm+1000,hfew,by omega⟩,movesR hmv⟩
 ·obtain ⟨hy,rfl,rfl,rfl⟩:=write_off hon ⟨by omega,by omega⟩ hW2
  exact ⟨y,⟨x.S,x.o,F',x.D,x.U,x.g⟩,rfl,.inr ⟨hy,by simpa using hon⟩,⟨hV,⟨may,hi,hl⟩,mm+1000,hfew,by omega⟩,movesR hmv⟩
theorem IsO.flush (h:IsO J A w x (k+1)) (hG:Giv J A):Calls Tryz.prog 53 #[.pointer (some ⟨J.v,0,none⟩)] w fun e w' =>
  ∃(y:Int) (x':Rs),e=.returned (.int .i64 y)∧flO A x y x'∧IsO J A w' x' k∧Sh.Moves (ownR J x.F) w (ownR J x'.F) w':=by
 obtain ⟨mm,hf,hmm⟩:=h.few
 obtain ⟨may,hi,hl⟩:=h.inv
 refine (vFlush_any h.vr (h.fits hG) hG.tabs hG.tb hf.waits hf.used (by omega)).mono ?_
 rintro e w' ⟨y,rfl,t,D',U',hF,F',hV,hmv⟩
 have hF2:FlR A.n A.L x.D x.U x.S y t D' U':=by rw [hG.n,hG.l];exact hF
 have hfew:=hf.flush (by have:=hG.said.m16;have:=(h.fits hG).cnt;omega) (h.fits hG).l2 hF
 have hon2:t.S.off=false→x.S.off=false:=fun e=>Classical.byContradiction fun hoff=>by
  have h3:=fdS_off hoff hi.ci.n1
  cases hF2 with
  | first o' h0=>rw [h3] at e;exact hoff e
  | none o' h0 _=>exact absurd ((congrArg Prod.snd h3).symm.trans h0) (show ¬(3:Int)=0 by decide)
  | slots o1 y b h0 _ _ _=>exact absurd ((congrArg Prod.snd h3).symm.trans h0) (show ¬(3:Int)=0 by decide)
  | again o1 o' b h0 _ _ _=>exact absurd ((congrArg Prod.snd h3).symm.trans h0) (show ¬(3:Int)=0 by decide)
  | all o1 o' b h0 _ _ _=>exact absurd ((congrArg Prod.snd h3).symm.trans h0) (show ¬(3:Int)=0 by decide)
 obtain ⟨g',⟨hy,hi2,hl2⟩ | ⟨hy,hoff,hi2⟩⟩:=hi.flush hl hF2
 ·exact ⟨y,⟨t.S,t.o,F',D',U',g'⟩,rfl,.inl ⟨hy,fun e=>⟨hon2 e,fun j hj=>last_trim (hl (hon2 e)) (hl2 e) hj⟩⟩,⟨hV,⟨_,hi2,hl2⟩,mm+1000,hfew,by omega⟩,movesR hmv⟩
 ·exact ⟨y,⟨t.S,t.o,F',D',U',g'⟩,rfl,.inr ⟨hy,by simpa using hoff⟩,⟨hV,⟨_,hi2,fun e=>absurd e hoff⟩,mm+1000,hfew,by omega⟩,movesR hmv⟩
def Ho (J:Vk) (A:Ar) (hG:Giv J A) (hN:A.St*(A.M-1)≤1073741824):Go.Proofs.YtepoepmndckmaaaGreatDoor.Kc.VolK where
 v:=J.v
 n:=A.St*(A.M-1)
 σ:=Rs
 own x b:=ownR J x.F b
 is w x k:=IsO J A w x k
 rd x m y X x':=rdO A x m y X x'
 wr x m b y x':=wrO A x m b y x'
 fl x y x':=flO A x y x'
 nmax:=hN
 lt h:=h.lt
 stays h ho hF:=h.stays ho hF
 less h hk:=h.less hk
 size h:=h.size hG
 read m h hm:=h.read hG m hm
 write m _ _ c h hm hA hb:=h.write hG m c hm hA hb
 flush h:=h.flush hG
end
section
open Go.Proofs.YtepoepmndckmaaaGreatDoor.Kc (En Cg Cav CQ)
variable {J:Vk} {A:Ar} {hG:Giv J A} {hN:A.St*(A.M-1)≤1073741824} {w w':World} {c most k:Nat} {l:List En} {x:Rs} {Q:List (Nat × Obj)}
theorem cq_toO (h:CQ (Hv J A hG hN) w c most l x k Q):CQ (Ho J A hG hN) w c most l x k Q:=by
 obtain ⟨g,h1,h2,h3⟩:=h
 have hca:=h2.ca
 exact ⟨g,h1,⟨⟨hca.most1,hca.mostM,hca.root,hca.row,hca.len,hca.map,hca.ent,hca.secs,hca.pins,hca.lows,hca.keys,hca.ptr⟩,(show IsR J A w x k from h2.vol).toO hG,h2.apart⟩,h3⟩
theorem cq_off (h:CQ (Ho J A hG hN) w c most l x k Q):Calls Tryz.prog 25 #[.pointer (some ⟨J.p,0,none⟩)] w fun e w'=>e=.returned (.bool x.S.off)∧w=w':=by
 obtain ⟨g,_,h2,_⟩:=h
 obtain ⟨D,gs,hs⟩:=(show IsO J A w x k from h2.vol).vr.vo.ds.on.shelf
 exact Sh.off_any hs
theorem stop_waits10 {S:Sh.Sf} {m:Nat} (h:∀x∈S.disks,x.waits.length≤m) (n:Int):∀x∈(S.doStop n).disks,x.waits.length≤m:=by
 unfold Sh.Sf.doStop
 split<;>exact h
theorem cq_stop (h:CQ (Ho J A hG hN) w c most l x k Q) (n:Int) (hn:-9223372036854775808≤n∧n≤9223372036854775807):Calls Tryz.prog 24 #[.pointer (some ⟨J.p,0,none⟩),.int .i64 n] w fun e w' =>
  e=.returned (.tuple #[])∧∃F',CQ (Ho J A hG hN) w' c most l ⟨x.S.doStop n,x.o,F',x.D,x.U,x.g⟩ k Q:=by
 obtain ⟨g,rfl,h2,h3⟩:=h
 have hO:IsO J A w x k:=h2.vol
 refine (Sh.stop_any w J.p n hn.1 hn.2 hO.vr.vo.ds.on.shelf).mono ?_
 rintro e w' ⟨rfl,hsh,hon⟩
 obtain ⟨F',hV,hmv⟩:=hO.vr.goesV (hO.vr.vo.goes (hO.vr.vo.ds.left ⟨x.F,hsh,hon,fun b e=>.inl e⟩))
 obtain ⟨may,hi,hl⟩:=hO.inv
 obtain ⟨m,hf,hm⟩:=hO.few
 have hO':IsO J A w' ⟨x.S.doStop n,x.o,F',x.D,x.U,x.g⟩ k:=⟨hV,⟨may,hi.stop n,fun e=>hl (stop_on e)⟩,m,⟨stop_waits10 hf.waits n,hf.opens,hf.used⟩,hm⟩
 have hcv:=h2.moved (V:=Ho J A hG hN) (x':=⟨x.S.doStop n,x.o,F',x.D,x.U,x.g⟩) (k':=k) hO' (movesR hmv)
 exact ⟨rfl,F',Go.Proofs.YtepoepmndckmaaaGreatDoor.Kc.cq_moves rfl h3 hcv.1 hcv.2⟩
end
end Go.Proofs.YtepoepmndckmaaaGreatDoor.U
