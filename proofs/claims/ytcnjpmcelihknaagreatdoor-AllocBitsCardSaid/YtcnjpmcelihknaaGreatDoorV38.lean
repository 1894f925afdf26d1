/-
  What the statement's proof rests on, part 38.
  Conditions: each theorem's own.
-/
import Derived.Test.YtcnjpmcelihknaaGreatDoorV34
import Derived.Test.YtcnjpmcelihknaaGreatDoorV15
import Derived.Test.YtcnjpmcelihknaaGreatDoorV00
open Go.Lib (hid)
namespace Go.Proofs.YtcnjpmcelihknaaGreatDoor.Kj
open Go.RowKit Go.Maps
def rootJ (c fi le sq a u:Nat) (mv:Value):Obj:=.cells #[.pointer (some ⟨c,0,none⟩),.int .i64 (fi:Int),.int .i64 (le:Int),.int .i64 (sq:Int),.int .i64 (a:Int),.int .i64 (u:Int),mv] 144 (0,0)
structure Jst (S:StoK) (p fi le:Nat) (mv:Value) (w:World) (O:Nat->Prop) (f:Nat->Sh.Bs) (C:Nat->Prop) (sq a u k:Nat):Prop where
 root:w.heap[p]?=some (rootJ S.c fi le sq a u mv)
 is:S.Is w O f C k
 np:¬O p
 lay:28<=le/\fi+le<=S.n
 ring:∀b,fi<=b->b<fi+le->C b
 num:a<le-1
def placeN (fi le a n:Nat):Nat:=fi+1+(a+n)%(le-1)
section
variable {S:StoK} {p fi le:Nat} {mv:Value} {w w':World} {O O':Nat->Prop} {f f':Nat->Sh.Bs} {C C':Nat->Prop} {sq a u k k':Nat}
theorem Jst.plt (h:Jst S p fi le mv w O f C sq a u k):p<w.heap.size:=lt_of_block h.root
theorem Jst.moved (h:Jst S p fi le mv w O f C sq a u k) (hi:S.Is w' O' f' C k') (hm:Sh.Moves O w O' w'):Jst S p fi le mv w' O' f' C sq a u k' :=
 ⟨(hm.1.block _ h.plt h.np).trans h.root,hi,fun e=>(hm.2 p e).elim h.np (fun e2=>absurd h.plt (by omega)),h.lay,h.ring,h.num⟩
theorem Jst.moved2 (h:Jst S p fi le mv w O f C sq a u k) (hi:S.Is w' O' f' C' k') (hr:∀b,C b->fi<=b->b<fi+le->C' b) (hm:Sh.Moves O w O' w'):Jst S p fi le mv w' O' f' C' sq a u k' :=
 ⟨(hm.1.block _ h.plt h.np).trans h.root,hi,fun e=>(hm.2 p e).elim h.np (fun e2=>absurd h.plt (by omega)),h.lay,fun b h1 h2=>hr b (h.ring b h1 h2) h1 h2,h.num⟩
theorem Jst.grown (h:Jst S p fi le mv w O f C sq a u k) (hb:Below w.heap.size w w'):Jst S p fi le mv w' O f C sq a u k :=
 ⟨(hb.block _ h.plt).trans h.root,S.grown h.is hb,h.np,h.lay,h.ring,h.num⟩
theorem Jst.only {F:Nat->Prop} (h:Jst S p fi le mv w O f C sq a u k) (ho:Sh.Only F w w') (hF:∀b,F b->¬O b) (hp:¬F p):Jst S p fi le mv w' O f C sq a u k :=
 ⟨(ho.block _ h.plt hp).trans h.root,S.stays h.is ho hF,h.np,h.lay,h.ring,h.num⟩
theorem Jst.less (h:Jst S p fi le mv w O f C sq a u k) (hk:k'<=k):Jst S p fi le mv w O f C sq a u k':=⟨h.root,S.less h.is hk,h.np,h.lay,h.ring,h.num⟩
theorem Jst.c0 (h:Jst S p fi le mv w O f C sq a u k):w.cell? ⟨p,0,none⟩=some (.pointer (some ⟨S.c,0,none⟩)):=cell_of_row _ _ 0 _ _ _ h.root
theorem Jst.c1 (h:Jst S p fi le mv w O f C sq a u k):w.cell? ⟨p,1,none⟩=some (.int .i64 (fi:Int)):=cell_of_row _ _ 1 _ _ _ h.root
theorem Jst.c2 (h:Jst S p fi le mv w O f C sq a u k):w.cell? ⟨p,2,none⟩=some (.int .i64 (le:Int)):=cell_of_row _ _ 2 _ _ _ h.root
theorem Jst.c3 (h:Jst S p fi le mv w O f C sq a u k):w.cell? ⟨p,3,none⟩=some (.int .i64 (sq:Int)):=cell_of_row _ _ 3 _ _ _ h.root
theorem Jst.c4 (h:Jst S p fi le mv w O f C sq a u k):w.cell? ⟨p,4,none⟩=some (.int .i64 (a:Int)):=cell_of_row _ _ 4 _ _ _ h.root
theorem Jst.c5 (h:Jst S p fi le mv w O f C sq a u k):w.cell? ⟨p,5,none⟩=some (.int .i64 (u:Int)):=cell_of_row _ _ 5 _ _ _ h.root
theorem Jst.c6 (h:Jst S p fi le mv w O f C sq a u k):w.cell? ⟨p,6,none⟩=some mv:=cell_of_row _ _ 6 _ _ _ h.root
theorem Jst.free (h:Jst S p fi le mv w O f C sq a u k) (i:Nat):w.frozen? ⟨p,i,none⟩=false:=frozen_of_row _ _ _ _ _ h.root
theorem Jst.bd (h:Jst S p fi le mv w O f C sq a u k):28<=le/\le<=65535/\fi<=65535/\a<le-1:=by
 have:=S.nmax;have:=h.lay;have:=h.num;omega
theorem place_in {fi le:Nat} (a n:Nat) (h:28<=le):fi<=placeN fi le a n/\placeN fi le a n<fi+le/\fi<placeN fi le a n:=by
 have:=Nat.mod_lt (a+n) (show 0<le-1 by omega)
 unfold placeN;omega
theorem jNone (h:Jst S p fi le mv w O f C sq a u k):Calls Tryz.prog 86 #[.pointer (some ⟨p,0,none⟩)] w fun e w'=>e=.returned (.bool false)/\w=w':=by
 have c0:=h.c0
 clear h
 go_enter Tryz.func86,Tryz.ntmps86
 go_wp2
 go_ret
 exact ⟨rfl,rfl⟩
theorem jRing (h:Jst S p fi le mv w O f C sq a u k):Calls Tryz.prog 79 #[.pointer (some ⟨p,0,none⟩)] w fun e w'=>e=.returned (.int .i64 ((le-1:Nat):Int))/\w=w':=by
 have c2:=h.c2
 have hb:=h.bd
 have e1:((le-1:Nat):Int)=(le:Int)-1:=by omega
 rw [e1]
 have b1:=hb.1
 have b2:=hb.2.1
 clear h hb e1
 go_enter Tryz.func79,Tryz.ntmps79
 go_wp2
 go_ret
 exact ⟨rfl,rfl⟩
theorem jPlace (h:Jst S p fi le mv w O f C sq a u k) (n:Nat) (hn:n<=65535):Calls Tryz.prog 81 #[.pointer (some ⟨p,0,none⟩),.int .i64 (n:Int)] w fun e w'=>e=.returned (.int .i64 ((placeN fi le a n:Nat):Int))/\∃q,w'=w.drewN q:=by
 have c1:=h.c1
 have c4:=h.c4
 have hb:=h.bd
 have HR:=hid (fun W (hb:Below w.heap.size w W)=>jRing (h.grown hb))
 have b1:=hb.1
 have b2:=hb.2.1
 have b3:=hb.2.2.1
 have b4:=hb.2.2.2
 have b5:0<le-1:=by omega
 have b6:le-1<=65535:=by omega
 have hm:((a:Int)+(n:Int)).tmod ((le-1:Nat):Int)=(((a+n)%(le-1):Nat):Int):=by
  rw [<- Int.natCast_add,Int.ofNat_tmod]
 have hm2:((a:Int)+(n:Int))%((le-1:Nat):Int)=(((a+n)%(le-1):Nat):Int):=by
  rw [<- Int.natCast_add];rfl
 have hlt:=Nat.mod_lt (a+n) b5
 have HF:Hid ((placeN fi le a n:Nat)=fi+1+(a+n)%(le-1)):=hid rfl
 have w1:IntKind.i64.wrap ((fi:Int)+1)=(fi:Int)+1:=by rw [IntKind.wrap_i64];omega
 have w2:IntKind.i64.wrap ((a:Int)+(n:Int))=(a:Int)+(n:Int):=by rw [IntKind.wrap_i64];omega
 have w3:IntKind.i64.wrap (((fi:Int)+1)+(((a+n)%(le-1):Nat):Int))=((fi:Int)+1)+(((a+n)%(le-1):Nat):Int):=by rw [IntKind.wrap_i64];omega
 have hne:((((le-1:Nat):Int)) == 0)=false:=by simp;omega
 clear h hb b1 b4
 generalize (a+n)%(le-1)=r at *
 generalize le-1=m at *
 go_enter Tryz.func81,Tryz.ntmps81
 go_wp2
 go_quiet ((go_at_call 79;exact Calls.quiet_of_same ((HR.out _ (below_drewN (Below.refl _ _) _)).mono fun _ _ h=>⟨h.1,h.2.symm⟩)))
 go_wp2
 go_ret
 exact ⟨by rw [HF.out];go_num,_,rfl⟩
theorem jVolume (h:Jst S p fi le mv w O f C sq a u k):∀W,Below w.heap.size w W->Calls Tryz.prog 78 #[.pointer (some ⟨S.c,0,none⟩)] W fun e w'=>e=.returned (.pointer (some ⟨S.v,0,none⟩))/\W=w':=fun _ hb=>S.volume (h.grown hb).is
theorem beside_below {A:Option Addr} {b:Sh.Bs} (h:Sh.Beside w O A b) (hb:Below w.heap.size w w'):Sh.Beside w' O A b :=
 ⟨(Sh.Reads.below h.1 hb).more hb.size,h.2⟩
theorem jWriteSurely (h:Jst S p fi le mv w O f C sq a u (k+2)) (m:Nat) (hm:m<S.n) (hc:C m) {A:Option Addr} {b:Sh.Bs} (cp:Nat) (hA:Sh.Beside w O A b) (hb:Sh.Sec b) :
  Calls Tryz.prog 150 #[.pointer (some ⟨p,0,none⟩),.int .i64 (m:Int),.slice A 128 cp] w fun e w'=>∃O',e=.returned (.int .i64 0)/\Jst S p fi le mv w' O' (fset f m b) C sq a u k/\Sh.Moves O w O' w':=by
 have c0:=h.c0
 have HV:=hid (jVolume h w (Below.refl _ _))
 have HW:=hid (S.vwrite m cp h.is hm hc hA hb)
 have HH:=hid h
 clear h hA hb
 go_enter Tryz.func150,Tryz.ntmps150
 go_wp2_with fail
 refine HV.out.mono ?_
 rintro e w0 ⟨rfl,rfl⟩
 go_wp2_with fail
 refine HW.out.mono ?_
 rintro e w1 ⟨O1,rfl,hi,hmv⟩
 have H1:=hid (And.intro (HH.out.moved hi hmv) hmv)
 have HF:=hid (S.vflush hi)
 clear hi hmv c0
 go_wp2_with fail
 refine HF.out.mono ?_
 rintro e w2 ⟨O2,rfl,hi,hmv⟩
 have H2:=hid (And.intro (H1.out.1.moved hi hmv) (H1.out.2.trans hmv))
 clear hi hmv
 go_wp2
 go_ret
 exact ⟨O2,rfl,H2.out.1,H2.out.2⟩
theorem fresh_beside {v:Value} {l:List Nat} (h:Go.Proofs.YtcnjpmcelihknaaGreatDoor.U.Fresh w l v w') (hl:l.length=128) (hO:∀b,O b->b<w.heap.size):∃g,v=.slice (some ⟨g,0,none⟩) 128 128/\Sh.Beside w' O (some ⟨g,0,none⟩) l/\Below w.heap.size w w'/\w.heap.size<=g:=by
 obtain ⟨g,rfl,hg,hrd,hb⟩:=fresh_reads h hl
 exact ⟨g,rfl,⟨hrd,fun ad ha e=>by
  injection ha with ha
  have:=hO _ e
  rw [<- ha] at this
  simp only at this
  omega⟩,hb,hg⟩
theorem moves_below {w1:World} (hb:Below w.heap.size w w1) (hm:Sh.Moves O w1 O' w'):Sh.Moves O w O' w' :=
 Sh.Moves.trans (F1:=O) ⟨(Go.Proofs.YtcnjpmcelihknaaGreatDoor.Kc.only_below hb).mono (fun _ e=>e.elim),fun _ e=>.inl e⟩ hm
theorem jWriteHead (h:Jst S p fi le mv w O f C sq a u (k+2)) (h1:1<=sq) (h2:sq<=4611686018427387904) :
  Calls Tryz.prog 83 #[.pointer (some ⟨p,0,none⟩)] w fun e w'=>∃O',e=.returned (.int .i64 0)/\Jst S p fi le mv w' O' (fset f fi (sealL headM sq [a])) C sq a u k/\Sh.Moves O w O' w':=by
 have c3:=h.c3
 have c4:=h.c4
 have hb:=h.bd
 have HD:=hid (fun W (hb:Below w.heap.size w W)=>head_ok sq a W h1 h2 (by omega) (S.tabs (h.grown hb).is))
 have HC1:=hid (fun (W:World) (hb:Below w.heap.size w W)=>(h.grown hb).c1)
 have HH:=hid h
 have HO:=hid (S.lt h.is)
 have HPL:=hid h.plt
 clear h h1 h2 hb
 go_enter Tryz.func83,Tryz.ntmps83
 go_wp2
 refine wp_region_held_drew (S:=fun (W:World)=>W.cell? ⟨p,3,none⟩=some (.int .i64 (sq:Int))/\W.cell? ⟨p,4,none⟩=some (.int .i64 (a:Int))) (by kernel_rfl) ⟨c3,c4⟩ (fun hHeld=>?_)
 refine tq 0 6 ?_
 refine tq 1 7 ?_
 refine tq 2 8 ?_
 refine tq 3 9 ?_
 refine tq 4 10 ?_
 refine tq 5 11 ?_
 refine tq 6 12 ?_
 refine tq 7 13 ?_
 refine rq 8 (some 14) fun K hK=>?_
 go_simp
 refine (HD.out _ (below_drewN (Below.refl _ _) 1)).mono ?_
 rintro e w1 ⟨v,rfl,hf⟩
 obtain ⟨g,rfl,hbe,hb1,hg⟩:=fresh_beside hf (sealL_length headM_facts.1 _ (by simp)) HO.out
 have hb1:Below w.heap.size w w1:=(below_drewN (Below.refl _ w) 1).trans hb1
 have HK3:=hid (And.intro ((hb1.cell (p:=⟨p,3,none⟩) HPL.out).trans hHeld.1) ((hb1.cell (p:=⟨p,4,none⟩) HPL.out).trans hHeld.2))
 have HB:=hid (And.intro hbe hb1)
 clear hf hbe hb1 hg
 refine hK.out _ _ ⟨HK3.out.1,HK3.out.2⟩ (fun hHeld=>?_)
 clear hK K
 try simp only [Act.put,List.setIfInBounds_toArray,List.set_cons_zero,List.set_cons_succ]
 refine tq 9 5 ?_
 refine tq 10 15 ?_
 refine tq 11 16 ?_
 refine tq 12 3 ?_
 refine tq 13 4 ?_
 refine wpAnyH_done (by kernel_rfl) ?_ _
 have hj1:=HH.out.grown HB.out.2
 have c1:=hj1.c1
 have HWS:=hid (fun cp=>jWriteSurely hj1 fi (by have:=hj1.lay;omega) (hj1.ring fi (Nat.le_refl _) (by have:=hj1.lay;omega)) cp HB.out.1 (sealL_sec headM_facts.1 headM_facts.2 sq (ns:=[a]) (by simp)))
 clear hj1 c3 c4 hHeld
 go_wp2_with fail
 refine (HWS.out _).mono ?_
 rintro e w2 ⟨O2,rfl,hj,hmv⟩
 have H2:=hid (And.intro hj (moves_below HB.out.2 hmv))
 clear hj hmv c1 HWS
 go_wp2
 go_ret
 exact ⟨O2,rfl,H2.out.1,H2.out.2⟩
theorem jReadRing (h:Jst S p fi le mv w O f C sq a u (k+1)) (n:Nat) (hn:n<=65535):Calls Tryz.prog 204 #[.pointer (some ⟨p,0,none⟩),.int .i64 (n:Int)] w fun e w' =>
  ∃(A:Option Addr) (cap:Nat) (O':Nat->Prop),e=.returned (.tuple #[.slice A 128 cap,.int .i64 0])/\Jst S p fi le mv w' O' f C sq a u k/\Sh.Moves O w O' w'/\Sh.Bytes w w' A (f (placeN fi le a n))/\∀ad,A=some ad->¬O' ad.block:=by
 have c0:=h.c0
 have HV:=hid (jVolume h w (Below.refl _ _))
 have HP:=hid (jPlace h n hn)
 have hin:=place_in (fi:=fi) a n h.lay.1
 have HR:=hid (fun (q:Nat)=>S.vread (placeN fi le a n) (h.grown (below_drewN (Below.refl _ w) q)).is (by have:=h.lay;omega) (h.ring _ hin.1 hin.2.1))
 have HH:=hid h
 clear h hin
 generalize placeN fi le a n=m at *
 go_enter Tryz.func204,Tryz.ntmps204
 go_wp2_with fail
 refine HV.out.mono ?_
 rintro e w0 ⟨rfl,rfl⟩
 go_wp2_with fail
 refine HP.out.mono ?_
 rintro e w0 ⟨rfl,q,rfl⟩
 go_wp2_with fail
 refine (HR.out q).mono ?_
 rintro e w1 ⟨A,cap,O1,rfl,hi,hmv,hby,hno⟩
 have H1:=hid (And.intro ((HH.out.grown (below_drewN (Below.refl _ w) q)).moved hi hmv) (And.intro (moves_below (below_drewN (Below.refl _ w) q) hmv) (And.intro hby hno)))
 clear hi hmv hby hno c0
 go_wp2
 go_ret2
 exact ⟨A,cap,O1,rfl,H1.out.1,H1.out.2.1,H1.out.2.2.1,H1.out.2.2.2⟩
end
end Go.Proofs.YtcnjpmcelihknaaGreatDoor.Kj
