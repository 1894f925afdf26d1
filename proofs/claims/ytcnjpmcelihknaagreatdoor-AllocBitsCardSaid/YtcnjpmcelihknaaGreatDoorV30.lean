/-
  What the statement's proof rests on, part 30.
  Conditions: each theorem's own.
-/
import Derived.Test.YtcnjpmcelihknaaGreatDoorV24
import Derived.Test.YtcnjpmcelihknaaGreatDoorV21
open Go.Lib (hid)
namespace Go.Proofs.YtcnjpmcelihknaaGreatDoor.Kc
open Go.RowKit Go.Maps
open Go.Proofs.YtcnjpmcelihknaaGreatDoor.Sh (bts bts_length Reads)
section
variable {V:VolK} {w w':World} {g:Cg} {most:Nat} {l:List En} {x:V.σ} {k:Nat}
theorem cFetch (h:Cav V w g most l x (k+2)) {m:Nat} (hm:m<V.n) (hf:finds l (m:Int)=none) :
  Calls Tryz.prog 163 #[.pointer (some ⟨g.c,0,none⟩),.int .i64 (m:Int)] w fun r w' =>
   ∃(y:Int) (l':List En) (x':V.σ),r=.returned (.int .i64 y)/\FetchR V most m l x y l' x'/\LeftC V w g most l x l' x' k w':=by
 have HR:=hid (V.read m h.vol hm)
 have HH:=hid (And.intro h (And.intro hm hf))
 have HK:=hid (fun (W:World) (x1:V.σ) (h1:Cav V W g most l x1 (k+1)) (A:Option Addr) (X:Sh.Bs) (hA:Sh.Beside W (AllC V x1 g l) A X) (hX:Sh.Sec X) (cp:Nat)=>cKeep h1 hm hf hA hX cp)
 have c0:=h.ca.c0
 clear h hm hf
 generalize hmm:(m:Int)=mk at *
 have HMK:=hid hmm
 clear hmm
 go_enter Tryz.func163,Tryz.ntmps163
 go_wp2_with fail
 refine HR.out.mono ?_
 rintro r w1 ⟨y,A,len,cap,X,x1,rfl,hrd,hi,hmv,hcase⟩
 have HM:=hid (HH.out.1.moved hi hmv)
 have HRD:=hid hrd
 have HLT:=hid (fun (b:Nat) (e:g.has l b)=>HH.out.1.ca.lt e)
 clear hrd hi hmv c0 HR
 rcases hcase with ⟨rfl,rfl,hb,hs,hno⟩ | ⟨hy,rfl,rfl,rfl⟩
 ·have hbs:Sh.Beside w1 (AllC V x1 g l) A X:=⟨hb.1,fun a ha e=>by
   rcases e with e | e
   ·exact hno a ha e
   ·have h1:=(hb.2 a ha).1
    have h2:=HLT.out _ e
    omega⟩
  have HKK:=hid (HK.out w1 x1 HM.out.1 A X hbs hs cap)
  clear hbs hb hs hno HK
  go_wp2_with fail
  refine HKK.out.mono ?_
  rintro r w2 ⟨y2,l2,x2,rfl,hk,hl⟩
  have HK2:=hid (And.intro hk hl)
  clear hk hl
  go_wp2
  go_ret
  obtain ⟨hk,u,hc,hmv2⟩:=HK2.out
  exact ⟨y2,l2,x2,rfl,.got X x1 y2 l2 x2 HRD.out hk,u,hc,HM.out.2.trans hmv2⟩
 ·have q:(y != 0)=true:=by simpa using hy
  have HY:=hid hy
  clear hy HK
  go_wp2
  go_ret
  exact ⟨y,l,x1,rfl,.no y X x1 HRD.out HY.out,g.u,HM.out.1.less (Nat.le_succ _),HM.out.2⟩
def GetQ (V:VolK) (w:World) (g:Cg) (most:Nat) (l:List En) (x:V.σ) (k:Nat) (n:Int) (y:Int) (A:Option Addr) (len cap:Nat) (w':World):Prop :=
 ∃X l' x' u,GetR V most n l x y X l' x'/\Cav V w' { g with u:=u } most l' x' k/\Sh.Moves (AllC V x g l) w (AllC V x' { g with u:=u } l') w' /\
  ((y=0/\len=128/\Sh.Bytes w w' A X/\Sh.Sec X/\∀a,A=some a->¬AllC V x' { g with u:=u } l' a.block)\/(y≠0/\A=none/\len=0/\cap=0))
theorem bytes_row {gb:Nat} {b:Sh.Bs} {rest:List Value} (h:U.RowB w' gb b rest) (hb:b.length=128) (hg:w.heap.size<=gb):Sh.Bytes w w' (some ⟨gb,0,none⟩) b :=
 ⟨h.reads hb,fun a ha=>by
  injection ha with ha
  subst ha
  refine ⟨hg,fun j _=>?_⟩
  have e:(⟨gb,0,none⟩:Addr).add j=⟨gb,j,none⟩:=by unfold Addr.add;split<;>simp_all
  rw [e]
  exact frozen_of_row _ _ _ _ _ h⟩
theorem KeepR.found {m:Nat} {b:Sh.Bs} {y:Int} {l':List En} {x':V.σ} (h:KeepR V most m b l x y l' x') (hf:finds l (m:Int)=none) (hy:y=0):∃e,finds l' (m:Int)=some e:=by
 cases h with
 | no _ _ _ _ hne=>exact absurd hy hne
 | kept l2 _ p hr =>
  refine ⟨⟨m,p,b,false,0⟩,?_⟩
  rw [finds_snoc (fun z hz e=>finds_none hf z (hr.sub z hz) (by rw [e])),if_pos rfl]
theorem FetchR.found {m:Nat} {y:Int} {l':List En} {x':V.σ} (h:FetchR V most m l x y l' x') (hf:finds l (m:Int)=none) (hy:y=0):∃e,finds l' (m:Int)=some e:=by
 cases h with
 | no _ _ _ _ hne=>exact absurd hy hne
 | got X x1 _ _ _ _ hk=>exact hk.found hf hy
theorem GetQ.from_ {w1:World} {n y:Int} {A:Option Addr} {len cap:Nat} (hb:Below w.heap.size w w1) (h:GetQ V w1 g most l x k n y A len cap w'):GetQ V w g most l x k n y A len cap w':=by
 obtain ⟨X,l',x',u,h1,h2,h3,h4⟩:=h
 refine ⟨X,l',x',u,h1,h2,Sh.Moves.trans (F1:=AllC V x g l) ⟨(only_below hb).mono (fun _ e=>e.elim),fun b e=>.inl e⟩ h3,h4.imp (fun q=>⟨q.1,q.2.1,⟨q.2.2.1.1,fun a ha=>⟨Nat.le_trans hb.size (q.2.2.1.2 a ha).1,(q.2.2.1.2 a ha).2⟩⟩,q.2.2.2⟩) id⟩
theorem ptr_none {f:Option En} (h:f=none):ptrV (f.map En.p)=.pointer none:=by rw [h];rfl
set_option maxRecDepth 20000 in
theorem cGet (h:Cav V w g most l x (k+2)) (n:Int):Calls Tryz.prog 95 #[.pointer (some ⟨g.c,0,none⟩),.int .i64 n] w fun r w' =>
  ∃(y:Int) (A:Option Addr) (len cap:Nat),r=.returned (.tuple #[.slice A len cap,.int .i64 y])/\GetQ V w g most l x k n y A len cap w':=by
 have HN:=hid (cNone h.ca)
 have HS:=hid (cHas h n)
 have HH:=hid h
 by_cases hh:0<=n/\n<(V.n:Int)
 ·have hc:hasC V n=true:=decide_eq_true hh
  rw [hc] at HS
  obtain ⟨m,rfl⟩:∃m:Nat,n=(m:Int):=⟨n.toNat,by omega⟩
  have hm:m<V.n:=by omega
  have HHH:=hid hh
  have hrange:-9223372036854775808<=(m:Int)/\(m:Int)<=9223372036854775807:=by have:=V.nmax;omega
  rcases hf:finds l (m:Int) with _ | e
  ·have HL:=hid (fun (W:World) (hb:Below w.heap.size w W)=>(h.grown hb).ca.look (m:Int) hrange)
   have HC2:=hid (fun (W:World) (hb:Below w.heap.size w W)=>(h.grown hb).ca.c2)
   have HF:=hid (fun (W:World) (hb:Below w.heap.size w W)=>cFetch (h.grown hb) hm hf)
   have hp:ptrV (ptrs l (m:Int))=.pointer none:=ptr_none hf
   rw [hp] at HL
   have HFN:=hid (And.intro hf hm)
   have HRA:=hid hrange
   clear h hh hc hf hp hm hrange
   generalize hmm:(m:Int)=mk at *
   have HMK:=hid hmm
   clear hmm
   go_enter Tryz.func95,Tryz.ntmps95
   go_wp2_with fail
   refine HN.out.mono ?_
   rintro r w0 ⟨rfl,rfl⟩
   go_wp2_with fail
   refine HS.out.mono ?_
   rintro r w1 ⟨rfl,hb1⟩
   have HB1:=hid hb1
   have look:=HL.out w1 hb1
   have c2:=HC2.out w1 hb1
   have HFF:=hid (HF.out w1 hb1)
   clear hb1 HN HS HL HC2 HF
   go_wp2_with fail
   refine HFF.out.mono ?_
   rintro r w2 ⟨y,l2,x2,rfl,hfr,u,hc2,hmv⟩
   clear look c2 HFF
   by_cases hy:y=0
   ·subst hy
    obtain ⟨e,hfe⟩:=hfr.found (by rw [HMK.out];exact HFN.out.1) rfl
    obtain ⟨hme,hek⟩:=finds_some hfe
    have HU:=hid (cUse hc2 hme)
    rw [hek,HMK.out] at HU
    have HX:=hid (And.intro hfr (And.intro hfe (And.intro hme (And.intro hek (And.intro hc2 hmv)))))
    clear hfr hfe hme hek hc2 hmv
    go_wp2_with fail
    refine HU.out.mono ?_
    rintro r w3 ⟨rfl,u3,hc3,hmv3⟩
    have hin:e∈useE l2 e:=List.mem_append_right _ (List.mem_singleton.2 rfl)
    have c2:=hc3.ca.c2
    have look:=hc3.ca.lookE hin
    rw [HX.out.2.2.2.1,HMK.out] at look
    have HCL:=hid (U.clone_bytes w3 e.p 128 (hc3.ca.secs e hin).1 (hc3.ca.bytes hin))
    have H3:=hid (And.intro hc3 (And.intro hmv3 hin))
    clear hc3 hmv3 hin HU
    go_wp2_with fail
    refine HCL.out.mono ?_
    rintro r w4 ⟨gb,cc,rest,rfl,_,_,hgb,hrow,hb4⟩
    have H4:=hid (And.intro hgb (And.intro hrow hb4))
    clear hgb hrow hb4 HCL c2 look
    go_wp2
    go_ret2
    obtain ⟨hfr,hfe,hme,hek,hc2,hmv⟩:=HX.out
    obtain ⟨hc3,hmv3,hin⟩:=H3.out
    obtain ⟨hgb,hrow,hb4⟩:=H4.out
    exact ⟨0,some ⟨gb,0,none⟩,128,cc,rfl,.from_ HB1.out ⟨e.d,useE l2 e,x2,u3,.got m l2 x2 e HMK.out.symm HFN.out.2 HFN.out.1 hfr (by rw [<- HMK.out];exact hfe),hc3.grown hb4,hmv.trans (hmv3.trans ⟨(only_below hb4).mono (fun _ e=>e.elim),fun b e=>.inl e⟩),
     .inl ⟨rfl,rfl,bytes_row hrow (hc3.ca.secs e hin).1 (Nat.le_trans hmv.1.size (Nat.le_trans hmv3.1.size hgb)),hc3.ca.secs e hin,fun a ha e2=>by
      injection ha with ha
      subst ha
      have:=hc3.lt e2
      exact Nat.lt_irrefl _ (Nat.lt_of_lt_of_le this hgb)⟩⟩⟩
   ·have q:(y != 0)=true:=by simpa using hy
    have HY:=hid (And.intro hy (And.intro hfr (And.intro hc2 hmv)))
    clear hy hfr hc2 hmv
    go_wp2
    go_ret2
    obtain ⟨hy,hfr,hc2,hmv⟩:=HY.out
    exact ⟨y,none,0,0,rfl,.from_ HB1.out ⟨[],l2,x2,u,.no m y l2 x2 HMK.out.symm HFN.out.2 HFN.out.1 hfr hy,hc2,hmv,.inr ⟨hy,rfl,rfl,rfl⟩⟩⟩
  ·obtain ⟨hme,hek⟩:=finds_some hf
   have HC2:=hid (fun (W:World) (hb:Below w.heap.size w W)=>(h.grown hb).ca.c2)
   have HL:=hid (fun (W:World) (hb:Below w.heap.size w W)=>(h.grown hb).ca.lookE hme)
   have HU:=hid (fun (W:World) (hb:Below w.heap.size w W)=>cUse (h.grown hb) hme)
   rw [hek] at HL HU
   have HFN:=hid (And.intro hf (And.intro hme hek))
   have HHI:=hid hh
   clear h hh hc hf hm hrange hme hek
   generalize (m:Int)=mk at *
   go_enter Tryz.func95,Tryz.ntmps95
   go_wp2_with fail
   refine HN.out.mono ?_
   rintro r w0 ⟨rfl,rfl⟩
   go_wp2_with fail
   refine HS.out.mono ?_
   rintro r w1 ⟨rfl,hb1⟩
   have HB1:=hid hb1
   have look:=HL.out w1 hb1
   have c2:=HC2.out w1 hb1
   have HUU:=hid (HU.out w1 hb1)
   clear hb1 HN HS HL HC2 HU
   go_wp2_with fail
   refine HUU.out.mono ?_
   rintro r w3 ⟨rfl,u3,hc3,hmv3⟩
   clear look c2 HUU
   have hin:e∈useE l e:=List.mem_append_right _ (List.mem_singleton.2 rfl)
   have c2:=hc3.ca.c2
   have look:=hc3.ca.lookE hin
   rw [HFN.out.2.2] at look
   have HCL:=hid (U.clone_bytes w3 e.p 128 (hc3.ca.secs e hin).1 (hc3.ca.bytes hin))
   have H3:=hid (And.intro hc3 (And.intro hmv3 hin))
   clear hc3 hmv3 hin
   go_wp2_with fail
   refine HCL.out.mono ?_
   rintro r w4 ⟨gb,cc,rest,rfl,_,_,hgb,hrow,hb4⟩
   have H4:=hid (And.intro hgb (And.intro hrow hb4))
   clear hgb hrow hb4 HCL c2 look
   go_wp2
   go_ret2
   obtain ⟨hc3,hmv3,hin⟩:=H3.out
   obtain ⟨hgb,hrow,hb4⟩:=H4.out
   exact ⟨0,some ⟨gb,0,none⟩,128,cc,rfl,.from_ HB1.out ⟨e.d,useE l e,x,u3,.here e HHI.out HFN.out.1,(hc3.grown hb4).less (by omega),(hmv3.trans ⟨(only_below hb4).mono (fun _ e=>e.elim),fun b e=>.inl e⟩),
    .inl ⟨rfl,rfl,bytes_row hrow (hc3.ca.secs e hin).1 (Nat.le_trans hmv3.1.size hgb),hc3.ca.secs e hin,fun a ha e2=>by
     injection ha with ha
     subst ha
     have:=hc3.lt e2
     exact Nat.lt_irrefl _ (Nat.lt_of_lt_of_le this hgb)⟩⟩⟩
 ·have hc:hasC V n=false:=decide_eq_false hh
  rw [hc] at HS
  have HHH:=hid hh
  clear h hh hc
  go_enter Tryz.func95,Tryz.ntmps95
  go_wp2_with fail
  refine HN.out.mono ?_
  rintro r w0 ⟨rfl,rfl⟩
  go_wp2_with fail
  refine HS.out.mono ?_
  rintro r w1 ⟨rfl,hb1⟩
  have HB1:=hid hb1
  clear hb1 HN HS
  go_wp2
  go_ret2
  exact ⟨1,none,0,0,rfl,.from_ HB1.out ⟨[],l,x,g.u,.out HHH.out,(HH.out.grown HB1.out).less (by omega),Sh.Moves.refl _ _,.inr ⟨by decide,rfl,rfl,rfl⟩⟩⟩
end
theorem heap_setCells {p:Nat} {t:TypeId}:∀(vs:List Value) (o:Nat) (w:World) (cs:List Value),w.heap[p]?=some (.cells cs.toArray t (0,0))->o+vs.length<=cs.length ->
  (w.setCells p o vs).heap[p]?=some (.cells (cs.take o++vs++cs.drop (o+vs.length)).toArray t (0,0))
 | [],o,w,cs,h,_=>by simpa [World.setCells] using h
 | v :: r,o,w,cs,h,hl=>by
  simp only [List.length_cons] at hl
  have h1:=heap_setCell_same w p o cs.toArray t v h
  rw [List.setIfInBounds_toArray] at h1
  have h2:=heap_setCells r (o+1) _ _ h1 (by simp;omega)
  have ho:o<cs.length:=by omega
  have e2:(cs.set o v).take (o+1)=cs.take o++[v]:=by
   rw [List.take_add_one,List.take_set_of_le (Nat.le_refl _)]
   simp [ho]
  have e3:(cs.set o v).drop (o+1+r.length)=cs.drop (o+(v :: r).length):=by
   rw [List.drop_set_of_lt (by omega)]
   congr 1
   simp
   omega
  rw [e2,e3] at h2
  unfold World.setCells
  rw [h2]
  simp
theorem only_cells {F:Nat->Prop} {p:Nat} (hp:F p):∀(vs:List Value) (o:Nat) (w w':World),Sh.Only F w w'->Sh.Only F w (w'.setCells p o vs)
 | [],_,_,_,h=>h
 | v :: r,o,w,_,h=>only_cells hp r (o+1) w _ (h.setCell (p:=⟨p,o,none⟩) (.inl hp) v)
theorem there_row {w:World} {p n:Nat} {cs:Array Value} {t:TypeId} (h:w.heap[p]?=some (.cells cs t (0,0))) (hn:n<=cs.size):w.there p 0 n:=fun j hj=>by
 rw [Nat.zero_add,cell_of_row _ _ j _ _ _ h,frozen_of_row _ _ _ _ _ h]
 exact ⟨by simp;omega,rfl⟩
theorem all_one (b:Sh.Bs):(Sh.bts b).toArray.all (·.oneCell')=true:=by
 simp [Sh.bts,Value.oneCell']
section
variable {V:VolK} {w w':World} {g:Cg} {most:Nat} {l:List En} {x:V.σ} {k:Nat}
theorem put_block {W:World} {e:En} {b:Sh.Bs} (he:W.heap[e.p]?=some (.cells (cellsE e).toArray 210 (0,0))) (hs:Sh.Sec e.d) (hb:Sh.Sec b) :
  ((W.setCells e.p 0 (Sh.bts b)).setCell ⟨e.p,128,none⟩ (.bool true)).heap[e.p]?=some (.cells (cellsE { e with d:=b,dirty:=true }).toArray 210 (0,0)):=by
 have h1:=heap_setCells (Sh.bts b) 0 W (cellsE e) he (by rw [cellsE_length hs,Sh.bts_length,hb.1];omega)
 have e1:(cellsE e).take 0++Sh.bts b++(cellsE e).drop (0+(Sh.bts b).length)=cellsE { e with d:=b }:=by
  rw [Sh.bts_length,hb.1,cellsE,Nat.zero_add,List.drop_left' (by rw [Sh.bts_length,hs.1])]
  simp [cellsE]
 rw [e1] at h1
 rw [heap_setCell_same _ _ _ _ _ _ h1,set_dirty { e with d:=b } hb]
theorem put_cell {W:World} {e:En} {b:Sh.Bs} (he:W.heap[e.p]?=some (.cells (cellsE e).toArray 210 (0,0))) (hs:Sh.Sec e.d) (hb:Sh.Sec b) :
  (W.setCells e.p 0 (Sh.bts b)).cell? ⟨e.p,128,none⟩=some (.bool e.dirty)/\(W.setCells e.p 0 (Sh.bts b)).frozen? ⟨e.p,128,none⟩=false:=by
 have h1:=heap_setCells (Sh.bts b) 0 W (cellsE e) he (by rw [cellsE_length hs,Sh.bts_length,hb.1];omega)
 refine ⟨?_,frozen_of_row _ _ _ _ _ h1⟩
 rw [cell_of_row _ _ 128 _ _ _ h1]
 have e1:(cellsE e).take 0++Sh.bts b++(cellsE e).drop (0+(Sh.bts b).length)=cellsE { e with d:=b }:=by
  rw [Sh.bts_length,hb.1,cellsE,Nat.zero_add,List.drop_left' (by rw [Sh.bts_length,hs.1])]
  simp [cellsE]
 rw [e1]
 simp [cellsE,Sh.bts_length,hb.1]
theorem cUsePut {W:World} (h:Cav V W g most l x k) {e:En} (he:e∈l) {b:Sh.Bs} (hb:Sh.Sec b) :
  Calls Tryz.prog 164 #[.pointer (some ⟨g.c,0,none⟩),.int .i64 (e.k:Int)] ((W.setCells e.p 0 (Sh.bts b)).setCell ⟨e.p,128,none⟩ (.bool true)) fun r w'=>r=.returned (.tuple #[])/\LeftC V W g most l x (useE l { e with d:=b,dirty:=true }) x k w':=by
 have hp:=h.put he (e:={ e with d:=b,dirty:=true }) rfl rfl hb (h.ca.pins e he) (put_block (h.ca.ent e he) (h.ca.secs e he) hb) ((only_cells (F:=fun c=>c=e.p) rfl (Sh.bts b) 0 W W (Sh.Only.refl _ _)).setCell (p:=⟨e.p,128,none⟩) (.inl rfl) _)
 have hin:({ e with d:=b,dirty:=true }:En)∈putE l { e with d:=b,dirty:=true }:=List.mem_map.2 ⟨e,he,by rw [if_pos rfl]⟩
 refine (cUse hp.1 hin).mono ?_
 rintro r w' ⟨rfl,u,h1,h2⟩
 have e1:useE (putE l { e with d:=b,dirty:=true }) { e with d:=b,dirty:=true }=useE l { e with d:=b,dirty:=true }:=by
  unfold useE
  have:=drop_put (l:=l) (e:={ e with d:=b,dirty:=true }) (e0:=e) rfl
  exact congrArg (·++[_]) this
 rw [e1] at h1 h2
 exact ⟨rfl,u,h1,hp.2.trans h2⟩
set_option maxRecDepth 20000 in
theorem cPut (h:Cav V w g most l x (k+1)) (n:Int) {A:Option Addr} {cp:Nat} {b:Sh.Bs} (hA:Sh.Beside w (AllC V x g l) A b) (hb:Sh.Sec b):Calls Tryz.prog 156 #[.pointer (some ⟨g.c,0,none⟩),.int .i64 n,.slice A 128 cp] w fun r w' =>
  ∃(y:Int) (l':List En) (x':V.σ),r=.returned (.int .i64 y)/\PutR V most n b l x y l' x'/\LeftC V w g most l x l' x' k w':=by
 have HN:=hid (cNone h.ca)
 have HS:=hid (cHas h n)
 have HH:=hid (And.intro h hA)
 have HSB:=hid hb
 have HI94:Hid ((Tryz.prog.info? 147).map (·.size)=some (Sh.bts b).length):=hid (by rw [Sh.bts_length,hb.1];exact info_arr)
 have HALL:=hid (all_one b)
 have HLB:Hid ((Sh.bts b).toArray.size=128):=hid (by simp [Sh.bts_length,hb.1])
 by_cases hh:0<=n/\n<(V.n:Int)
 ·have hc:hasC V n=true:=decide_eq_true hh
  rw [hc] at HS
  obtain ⟨m,rfl⟩:∃m:Nat,n=(m:Int):=⟨n.toNat,by omega⟩
  have hm:m<V.n:=by omega
  have HHH:=hid hh
  have hrange:-9223372036854775808<=(m:Int)/\(m:Int)<=9223372036854775807:=by have:=V.nmax;omega
  rcases hf:finds l (m:Int) with _ | e
  ·have HL:=hid (fun (W:World) (hb:Below w.heap.size w W)=>(h.grown hb).ca.look (m:Int) hrange)
   have HC2:=hid (fun (W:World) (hb:Below w.heap.size w W)=>(h.grown hb).ca.c2)
   have HF:=hid (fun (W:World) (hbw:Below w.heap.size w W)=>cKeep (h.grown hbw) hm hf (hA.grown hbw) hb cp)
   have hp:ptrV (ptrs l (m:Int))=.pointer none:=ptr_none hf
   rw [hp] at HL
   have HFN:=hid (And.intro hf hm)
   clear h hh hc hf hp hm hrange hA hb
   generalize hmm:(m:Int)=mk at *
   have HMK:=hid hmm
   clear hmm
   go_enter Tryz.func156,Tryz.ntmps156
   go_wp2_with fail
   refine HN.out.mono ?_
   rintro r w0 ⟨rfl,rfl⟩
   go_wp2_with fail
   refine HS.out.mono ?_
   rintro r w1 ⟨rfl,hb1⟩
   have HB1:=hid hb1
   have look:=HL.out w1 hb1
   have c2:=HC2.out w1 hb1
   have HFF:=hid (HF.out w1 hb1)
   clear hb1 HN HS HL HC2 HF
   go_wp2_with fail
   refine HFF.out.mono ?_
   rintro r w2 ⟨y,l2,x2,rfl,hfr,u,hc2,hmv⟩
   clear look c2 HFF
   by_cases hy:y=0
   ·subst hy
    obtain ⟨e,hfe⟩:=hfr.found (by rw [HMK.out];exact HFN.out.1) rfl
    obtain ⟨hme,hek⟩:=finds_some hfe
    have HAB:=hid ((HH.out.2.grown HB1.out).moves hmv)
    have c2:=hc2.ca.c2
    have look:=hc2.ca.lookE hme
    rw [hek,HMK.out] at look
    obtain ⟨ad,hAd,hadlt,hrd⟩:=HAB.out.1.2 (by decide)
    have HRD:=hid hrd
    have HAd:=hid hAd
    have hthere:=hid (there_row (n:=(Sh.bts b).toArray.size) (hc2.ca.ent e hme) (by rw [HLB.out];simp [cellsE_length (hc2.ca.secs e hme)]))
    have HPC:=hid (put_cell (hc2.ca.ent e hme) (hc2.ca.secs e hme) HSB.out)
    have harr:(Instr.arrayAt 147 (.slice A 128 cp)).run Tryz.prog w2=.ok (.pointer A) w2:=run_arr _ _ _
    clear hrd hadlt hAd HAB
    have HX:=hid (And.intro hfr (And.intro hfe (And.intro hek (And.intro hc2 hmv))))
    have HU:=hid (cUsePut hc2 hme HSB.out)
    rw [hek,HMK.out] at HU
    clear hfr hfe hme hek hc2 hmv
    go_wp2_with (first
     | (refine wpList_load_any rfl 147 _ rfl ad (by rw [<- HAd.out];rfl) (Sh.bts b) _ HRD.out Tryz.underlying147 rfl HI94.out ?_)
     | (refine wpList_store_mid rfl 147 _ _ rfl e.p 0 (Sh.bts b).toArray rfl rfl hthere.out (by rw [HI94.out];simp) HALL.out ?_;have k128:=HPC.out.1;have f128:=HPC.out.2)
     | fail)
    refine HU.out.mono ?_
    rintro r w3 ⟨rfl,hl3⟩
    have H3:=hid hl3
    clear hl3
    go_wp2
    go_ret
    obtain ⟨hfr,hfe,hek,hc2,hmv⟩:=HX.out
    obtain ⟨u3,hc3,hmv3⟩:=H3.out
    exact ⟨0,_,x2,rfl,.new m l2 x2 e HMK.out.symm HFN.out.2 HSB.out.1 HFN.out.1 hfr (by rw [<- HMK.out];exact hfe),LeftC.from_ HB1.out ⟨u3,hc3,hmv.trans hmv3⟩⟩
   ·have q:(y != 0)=true:=by simpa using hy
    have HY:=hid (And.intro hy (And.intro hfr (And.intro hc2 hmv)))
    clear hy hfr hc2 hmv
    go_wp2
    go_ret
    obtain ⟨hy,hfr,hc2,hmv⟩:=HY.out
    exact ⟨y,l2,x2,rfl,.no m y l2 x2 HMK.out.symm HFN.out.2 HSB.out.1 HFN.out.1 hfr hy,LeftC.from_ HB1.out ⟨u,hc2,hmv⟩⟩
  ·obtain ⟨hme,hek⟩:=finds_some hf
   have HFN:=hid (And.intro hf (And.intro hme hek))
   have HHI:=hid hh
   clear h hh hc hf hm hrange hA hb
   have HMM:=hid hek
   generalize hmm:(m:Int)=mk at *
   clear hmm
   go_enter Tryz.func156,Tryz.ntmps156
   go_wp2_with fail
   refine HN.out.mono ?_
   rintro r w0 ⟨rfl,rfl⟩
   go_wp2_with fail
   refine HS.out.mono ?_
   rintro r w1 ⟨rfl,hb1⟩
   have HB1:=hid hb1
   have hc2:=HH.out.1.grown hb1
   have HAB:=hid (HH.out.2.grown hb1)
   have c2:=hc2.ca.c2
   have look:=hc2.ca.lookE hme
   rw [hek] at look
   obtain ⟨ad,hAd,hadlt,hrd⟩:=HAB.out.1.2 (by decide)
   have HRD:=hid hrd
   have HAd:=hid hAd
   have hthere:=hid (there_row (n:=(Sh.bts b).toArray.size) (hc2.ca.ent e hme) (by rw [HLB.out];simp [cellsE_length (hc2.ca.secs e hme)]))
   have HPC:=hid (put_cell (hc2.ca.ent e hme) (hc2.ca.secs e hme) HSB.out)
   have harr:(Instr.arrayAt 147 (.slice A 128 cp)).run Tryz.prog w1=.ok (.pointer A) w1:=run_arr _ _ _
   clear hrd hadlt hAd HAB
   have HU:=hid (cUsePut hc2 hme HSB.out)
   rw [hek] at HU
   have HC1:=hid hc2
   clear hme hek hc2 hb1
   go_wp2_with (first
    | (refine wpList_load_any rfl 147 _ rfl ad (by rw [<- HAd.out];rfl) (Sh.bts b) _ HRD.out Tryz.underlying147 rfl HI94.out ?_)
    | (refine wpList_store_mid rfl 147 _ _ rfl e.p 0 (Sh.bts b).toArray rfl rfl hthere.out (by rw [HI94.out];simp) HALL.out ?_;have k128:=HPC.out.1;have f128:=HPC.out.2)
    | fail)
   refine HU.out.mono ?_
   rintro r w3 ⟨rfl,hl3⟩
   have H3:=hid hl3
   clear hl3
   go_wp2
   go_ret
   exact ⟨0,_,x,rfl,.here e HHI.out HSB.out.1 HFN.out.1,LeftC.from_ HB1.out (by obtain ⟨u3,hc3,hmv3⟩:=H3.out;exact ⟨u3,hc3.less (Nat.le_succ _),hmv3⟩)⟩
 ·have hc:hasC V n=false:=decide_eq_false hh
  rw [hc] at HS
  have HHH:=hid hh
  clear h hh hc hA hb
  go_enter Tryz.func156,Tryz.ntmps156
  go_wp2_with fail
  refine HN.out.mono ?_
  rintro r w0 ⟨rfl,rfl⟩
  go_wp2_with fail
  refine HS.out.mono ?_
  rintro r w1 ⟨rfl,hb1⟩
  have HB1:=hid hb1
  clear hb1 HN HS
  go_wp2
  go_ret
  exact ⟨1,l,x,rfl,.out (fun e=>HHH.out e.1),LeftC.from_ HB1.out ⟨g.u,(HH.out.1.grown HB1.out).less (Nat.le_succ _),Sh.Moves.refl _ _⟩⟩
end
end Go.Proofs.YtcnjpmcelihknaaGreatDoor.Kc
