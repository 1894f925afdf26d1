/-
  What the statement's proof rests on, part 14.
  Conditions: each theorem's own.
-/
import Derived.Test.YtcnjpmcelihknaaGreatDoorV12
import Derived.Deep.MidRow
open Go.Lib (hid)
namespace Go.Proofs.YtcnjpmcelihknaaGreatDoor.Kc
open Go.RowKit Go.Maps
open Go.Proofs.YtcnjpmcelihknaaGreatDoor.Sh (bts bts_length Reads)
section
variable {V:VolK} {w w':World} {g:Cg} {most:Nat} {l:List En} {x:V.σ} {k:Nat}
theorem cNone (h:Ca V w g most l):Calls Tryz.prog 161 #[.pointer (some ⟨g.c,0,none⟩)] w fun e w'=>e=.returned (.bool false)/\w=w':=by
 have c0:=h.c0
 clear h
 go_enter Tryz.func161,Tryz.ntmps161
 go_wp2
 go_ret
 exact ⟨rfl,rfl⟩
def hasC (V:VolK) (n:Int):Bool:=decide (0<=n/\n<(V.n:Int))
theorem cHas (h:Cav V w g most l x k) (n:Int):Calls Tryz.prog 162 #[.pointer (some ⟨g.c,0,none⟩),.int .i64 n] w fun e w'=>e=.returned (.bool (hasC V n))/\Below w.heap.size w w':=by
 have c0:=h.ca.c0
 have hs:=hid (V.size h.vol)
 unfold hasC
 generalize (V.n:Int)=z at *
 clear h
 by_cases h0:0<=n
 ·have q1:decide (n≥0)=true:=by simpa using h0
  by_cases h1:n<z
  ·have q2:decide (n<z)=true:=by simpa using h1
   rw [decide_eq_true (And.intro h0 h1)]
   clear h0 h1
   go_enter Tryz.func162,Tryz.ntmps162
   go_wp2_with fail
   refine hs.out.mono ?_
   rintro e w' ⟨rfl,hb⟩
   go_wp2
   go_ret
   exact ⟨rfl,hb⟩
  ·have q2:decide (n<z)=false:=by simpa using h1
   rw [decide_eq_false (fun e=>h1 e.2)]
   clear h0 h1
   go_enter Tryz.func162,Tryz.ntmps162
   go_wp2_with fail
   refine hs.out.mono ?_
   rintro e w' ⟨rfl,hb⟩
   go_wp2
   go_ret
   exact ⟨rfl,hb⟩
 ·have q1:decide (n≥0)=false:=by simpa using h0
  rw [decide_eq_false (fun e=>h0 e.1)]
  clear h0
  go_enter Tryz.func162,Tryz.ntmps162
  go_wp2
  go_ret
  exact ⟨rfl,Below.refl _ _⟩
end
section
variable {P:Program}
theorem run_loadVar_any (w:World) (a:Addr) (ty:TypeId) (cs:List Value) (d:TypeDesc) (hc:∀j v,cs[j]?=some v->w.cell? (a.add j)=some v)
  (hu:P.underlying ty=some d) (hd:d.isRow=true) (hi:(P.info? ty).map (·.size)=some cs.length) :
  (loadVar ty a).run P w=.ok (.agg cs.toArray) w:=by
 have hl:(loadCells a cs.length).run P w=.ok cs.toArray w:=run_loadCells_list (P:=P) w a cs hc
 cases hq:P.info? ty with
 | none=>simp [hq] at hi
 | some i =>
  have hs:i.size=cs.length:=by simpa [hq] using hi
  have hagg:(isAgg ty).run P w=.ok true w:=by
   unfold isAgg
   rw [Sem.run_bind,run_underlying hu w]
   cases d<;>simp_all
  simp [loadVar,Sem.run_bind,hagg,sizeOf,typeInfo,hq,hs,hl]
theorem wpList_load_any {ops:Array Oper} {rest:List Oper} {op:Oper} {a:Act} {w:World} {Q:Exit->Act->World->Prop} (hgd:op.guard=none) (ty:TypeId) (p:Operand) (ho:op.op=.load ty p)
  (ad:Addr) (hx:a.eval p=.pointer (some ad)) (cs:List Value) (d:TypeDesc) (hc:∀j v,cs[j]?=some v->w.cell? (ad.add j)=some v)
  (hu:P.underlying ty=some d) (hd:d.isRow=true) (hi:(P.info? ty).map (·.size)=some cs.length)
  (h:wpList P ops Q rest (a.put op.dst (.agg cs.toArray)) w):wpList P ops Q (op :: rest) a w:=by
 refine wpList_plain hgd fun K' hK'=>?_
 unfold Oper.wp execOp
 simp only [ho,hx,Instr.loadAt,Instr.sureAddr,Sem.run_bind,Sem.run_pure,Result.andThen_ok,run_loadVar_any w ad ty cs d hc hu hd hi]
 exact hK' _ _ h
end
open Go.Proofs.YtcnjpmcelihknaaGreatDoor.Sh (bts bts_length Reads)
theorem set_dirty (e:En) (h:Sh.Sec e.d) (b:Bool):(cellsE e).toArray.setIfInBounds 128 (.bool b)=(cellsE { e with dirty:=b }).toArray:=by
 have h1:(bts e.d).length=128:=by rw [bts_length,h.1]
 simp only [cellsE,List.setIfInBounds_toArray]
 rw [List.set_append_right _ _ (by omega),h1]
 rfl
theorem putE_self {l:List En} (hn:(l.map En.k).Nodup) {e:En} (he:e∈l):putE l e=l:=by
 unfold putE
 conv=>rhs;rw [<- List.map_id l]
 apply List.map_congr_left
 intro z hz
 split
 ·rename_i h;exact (one_of_key hn hz he h).symm
 ·rfl
section
variable {V:VolK} {w w':World} {g:Cg} {most:Nat} {l:List En} {x:V.σ} {k:Nat}
theorem Ca.at_ (h:Ca V w g most l) {e:En} (he:e∈l):ptrV (ptrs l (e.k:Int))=.pointer (some ⟨e.p,0,none⟩):=by
 unfold ptrs
 rw [finds_mem h.keys he]
 rfl
theorem Ca.klow (h:Ca V w g most l) {e:En} (he:e∈l):-9223372036854775808<=(e.k:Int)/\(e.k:Int)<=9223372036854775807:=by
 have h1:=h.lows e he
 have h2:=V.nmax
 omega
theorem Ca.lookE (h:Ca V w g most l) {e:En} (he:e∈l):(Instr.lookup 138 (.map (some g.m)) (.int .i64 (e.k:Int)) false).run Tryz.prog w=.ok (.pointer (some ⟨e.p,0,none⟩)) w:=by
 rw [h.look _ (h.klow he),h.at_ he]
theorem Cav.beside (h:Cav V w g most l x k) {e:En} (he:e∈l):Sh.Beside w (V.own x) (some ⟨e.p,0,none⟩) e.d :=
 ⟨h.ca.bytes he,fun a ha hF=>by
  injection ha with ha
  subst ha
  exact h.apart _ hF (.inr (.inr (.inr ⟨e,he,rfl⟩)))⟩
def StepC (V:VolK) (w:World) (g:Cg) (most:Nat) (l:List En) (x:V.σ) (l':List En) (x':V.σ) (k:Nat) (w':World):Prop :=
 Cav V w' g most l' x' k/\Sh.Moves (AllC V x g l) w (AllC V x' g l') w'
theorem cWB (h:Cav V w g most l x (k+1)) {e:En} (he:e∈l):Calls Tryz.prog 169 #[.pointer (some ⟨g.c,0,none⟩),.int .i64 (e.k:Int)] w fun r w' =>
  ∃(y:Int) (x':V.σ) (e':En),r=.returned (.int .i64 y)/\WbR V x e y x' e'/\StepC V w g most l x (putE l e') x' k w':=by
 have hself:=putE_self h.ca.keys he
 have c0:=h.ca.c0
 have c2:=h.ca.c2
 have look:=h.ca.lookE he
 have e128:=h.ca.e128 he
 by_cases hd:e.dirty=true
 ·have HW:=hid (fun (w1:World) (b:Below w.heap.size w w1) (c:Nat)=>V.write e.k c (h.grown b).vol (h.ca.lows e he) ((h.grown b).beside he) (h.ca.secs e he))
  have HH:=hid (And.intro h (And.intro he (And.intro hself hd)))
  rw [hd] at e128
  clear h hself hd
  generalize hek:(e.k:Int)=ek at *
  go_enter Tryz.func169,Tryz.ntmps169
  go_wp2
  go_region_with (go_at_call 80;refine (HW.out _ (by first | exact (Below.refl _ w).drew | exact Below.refl _ w) _).mono ?_;rintro r w1 ⟨y,x',rfl,hwr,hi,hm⟩)
  all_goals
   have hm2:Sh.Moves (V.own x) w (V.own x') w1:=⟨⟨hm.1.os,hm.1.tape,hm.1.output,hm.1.size,hm.1.block⟩,hm.2⟩
   have HM:=hid (HH.out.1.moved hi hm2)
   have k128:=HM.out.1.ca.e128 he
   have f128:=HM.out.1.ca.efree he 128
   rw [HH.out.2.2.2] at k128
   clear hm hm2 hi HW c0 c2 look e128
   by_cases hy:y=0
   ·subst hy
    go_wp2
    go_ret
    have hb:=HM.out.1.ca.ent e he
    have hs:=HM.out.1.ca.secs e he
    refine ⟨0,x',{ e with dirty:=false },rfl,.done x' HH.out.2.2.2 hwr,?_⟩
    have hp:=HM.out.1.put he (e:={ e with dirty:=false }) rfl rfl hs (HM.out.1.ca.pins e he) (by rw [heap_setCell_same _ _ _ _ _ _ hb,set_dirty e hs]) ((Sh.Only.refl (fun b=>b=e.p) w1).setCell (p:=⟨e.p,128,none⟩) (.inl rfl) (.bool false))
    exact ⟨hp.1,HM.out.2.trans hp.2⟩
   ·have q:(y != 0)=true:=by simpa using hy
    go_wp2
    go_ret
    exact ⟨y,x',e,rfl,.no y x' HH.out.2.2.2 hwr hy,by rw [HH.out.2.2.1];exact HM.out⟩
 ·have hd':e.dirty=false:=by simpa using hd
  have HH:=hid (And.intro h hself)
  rw [hd'] at e128
  clear h hself hd
  generalize hek:(e.k:Int)=ek at *
  go_enter Tryz.func169,Tryz.ntmps169
  go_wp2
  go_ret
  exact ⟨0,x,e,rfl,.clean hd',by rw [HH.out.2];exact ⟨HH.out.1.less (Nat.le_succ _),Sh.Moves.refl _ _⟩⟩
end
open Go.Proofs.YtcnjpmcelihknaaGreatDoor.Sh (bts bts_length Reads)
theorem enters_fn {f : FuncId} {fn : Func} {c : Code} (hf : Tryz.prog.funcs[f]? = some fn) (hname : (fn.name == "runtime.NumGoroutine") = false) (hb : fn.body = some c) (args : Array Value) (w : World) : (callFunc f args).run Tryz.prog w = .ok (.enter f args) w := by
 have h1 : fn.name ≠ "runtime.NumGoroutine" := by simpa using hname
 simp [callFunc,hf,h1,hb,mark]
def atV (l:List En) (i:Nat):Int:=if i<l.length then (i:Int) else -1
theorem keysV_get (l:List En) (j:Nat) (h:j<l.length):(keysV l)[j]?=some (.int .i64 ((l[j].k:Nat):Int)):=by simp [keysV,h]
section
variable {V:VolK} {w w':World} {g:Cg} {most:Nat} {l:List En} {x:V.σ} {k:Nat}
theorem room1 (h:Ca V w g most l) {B:Nat} (hB:w.cell? ⟨B,0,none⟩=some (.pointer (some ⟨g.c,0,none⟩))) {e:En} (he:e∈l) :
  Calls Tryz.prog 266 #[.int .i64 (e.k:Int),.pointer (some ⟨B,0,none⟩)] w fun r w'=>r=.returned (.bool (decide (e.pins=0)))/\w=w':=by
 have c2:=h.c2
 have look:=h.lookE he
 have e129:=h.e129 he
 clear h
 generalize hek:(e.k:Int)=ek at *
 by_cases hp:e.pins=0
 ·rw [decide_eq_true hp]
  rw [hp] at e129
  clear hp
  go_enter Tryz.func266,Tryz.ntmps266
  go_wp2
  go_ret
  exact ⟨rfl,rfl⟩
 ·rw [decide_eq_false hp]
  have q:((e.pins:Int) == 0)=false:=by rw [beq_eq_false_iff_ne];omega
  clear hp
  go_enter Tryz.func266,Tryz.ntmps266
  go_wp2
  go_ret
  exact ⟨rfl,rfl⟩
theorem firstE_at {j:Nat} (hj:j<l.length) (h1:l[j].pins=0) (h2:∀i,i<j->∀z,l[i]?=some z->z.pins≠0):firstE l=j:=by
 unfold firstE
 rw [List.findIdx_eq hj]
 refine ⟨by simpa using h1,fun i hi=>?_⟩
 have:=h2 i hi l[i] (List.getElem?_eq_getElem (by omega))
 simpa using this
theorem firstE_none (h2:∀z∈l,z.pins≠0):firstE l=l.length:=by
 unfold firstE
 rw [List.findIdx_eq_length]
 intro z hz
 have:=h2 z hz
 simpa using this
set_option maxRecDepth 20000 in
theorem idxRoom (h:Ca V w g most l) {B:Nat} (hB:w.cell? ⟨B,0,none⟩=some (.pointer (some ⟨g.c,0,none⟩))) {b cap:Nat} (hu:g.u=.slice (some ⟨b,0,none⟩) l.length cap) :
  Calls Tryz.prog 279 #[.slice (some ⟨b,0,none⟩) l.length cap,.func (.func 266) #[] #[.pointer (some ⟨B,0,none⟩)]] w fun r w'=>r=.returned (.int .i64 (atV l (firstE l)))/\w=w':=by
 have HH:=hid (And.intro h (And.intro hB hu))
 have hen:=enters_fn (f:=266) Tryz.func266 (by kernel_rfl) rfl
 have hM:l.length<=1024:=Nat.le_trans h.len h.mostM
 generalize hn:l.length=n at *
 clear h hB hu
 go_enter Tryz.func279,Tryz.ntmps279
 go_wp2
 go_loopw [8] (fun i wr=>∃j:Nat,j<=n/\i=.int .i64 j/\wr=w/\Hid (∀i,i<j->∀z,l[i]?=some z->z.pins≠0)) (fun i _=>n-(intOf i).toNat)
 case atStart=>exact ⟨0,Nat.zero_le _,rfl,rfl,hid fun i hi=>absurd hi (by omega)⟩
 case round =>
  obtain ⟨j,hj,rfl,rfl,hrel⟩:=hrel
  by_cases hlt:j<n
  ·have hjl:j<l.length:=by omega
   have hget:l[j]?=some l[j]:=List.getElem?_eq_getElem hjl
   have hcell:wr.cell? ⟨b,j,none⟩=some (.int .i64 ((l[j].k:Nat):Int)):=by
    have hr:=HH.out.1.row
    rw [HH.out.2.2,hn] at hr
    exact Sh.cell_at hr (keysV_get l j hjl)
   have HC:=hid (room1 HH.out.1 HH.out.2.1 (e:=l[j]) (List.getElem_mem hjl))
   have HP:=hid (rfl:l[j].pins=l[j].pins)
   generalize hz:l[j]=z at *
   have HZ:=hid (And.intro hget hz)
   clear hget hz
   by_cases hp:z.pins=0
   ·rw [decide_eq_true hp] at HC
    have HPz:=hid hp
    clear hp HP
    go_wp2_with fail
    refine HC.out.mono ?_
    rintro r w2 ⟨rfl,rfl⟩
    go_wp2
    go_ret
    refine ⟨?_,rfl⟩
    have e1:firstE l=j:=firstE_at hjl (by rw [HZ.out.2];exact HPz.out) hrel.out
    simp [atV,e1,hjl]
   ·rw [decide_eq_false hp] at HC
    have HPz:=hid hp
    clear hp HP
    go_wp2_with fail
    refine HC.out.mono ?_
    rintro r w2 ⟨rfl,rfl⟩
    go_wp2
    go_roundw
    case rel =>
     refine ⟨j+1,by omega,by go_num,trivial,hid fun i hi z2 hz2=>?_⟩
     by_cases e:i=j
     ·subst e
      have:=HZ.out.1
      rw [hz2] at this
      injection this with this
      rw [this]
      exact HPz.out
     ·exact hrel.out i (by omega) z2 hz2
    case measure=>simp [intOf];omega
  ·obtain rfl:j=n:=by omega
   go_wp2
   go_ret
   refine ⟨?_,rfl⟩
   have e1:firstE l=l.length:=firstE_none fun z hz=>by
    obtain ⟨i,hi,rfl⟩:=List.getElem_of_mem hz
    exact hrel.out i (by omega) _ (List.getElem?_eq_getElem hi)
   simp [atV,e1]
end
end Go.Proofs.YtcnjpmcelihknaaGreatDoor.Kc
