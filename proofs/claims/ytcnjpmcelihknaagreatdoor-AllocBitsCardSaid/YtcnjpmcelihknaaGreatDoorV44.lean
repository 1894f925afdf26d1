/-
  What the statement's proof rests on, part 44.
  Conditions: each theorem's own.
-/
import Derived.Test.YtcnjpmcelihknaaGreatDoorV43
import Derived.Test.YtcnjpmcelihknaaGreatDoorV08
open Go.Lib (hid)
namespace Go.Proofs.YtcnjpmcelihknaaGreatDoor.Kj
open Go.RowKit Go.Maps
structure AlM (G:Jg) (w:World) (m fi n:Nat):Prop where
 root:w.heap[m]?=some (.cells #[.pointer (some ⟨G.p,0,none⟩),.int .i64 (fi:Int),.int .i64 (n:Int)] 160 (0,0))
 cnt:1<=n/\n<=4096
structure AlR (S:StoK) (G:Jg) (w:World) (m fi n:Nat):Prop extends AlM G w m fi n where
 own:∀i,i<(n-1) / 1024+1->mine S G (fi+i)
def tkA (f:Nat->Sh.Bs) (fi i:Nat):Bool:=bitB (f (fi+i / 1024)) (i%1024)
def Js.put (s:Js) (b:Nat) (x:Sh.Bs):Js:={ s with R:=rput s.R b x }
theorem look_put {R:List (Nat × Sh.Bs)} (hR:Rises R) {sq a u:Nat} {f:Nat->Sh.Bs} (b:Nat) (x:Sh.Bs):(Js.put ⟨sq,a,u,f,R⟩ b x).look=fset (Js.look ⟨sq,a,u,f,R⟩) b x:=over_put hR f b x
section
variable {S:StoK} {G:Jg} {w w':World} {O O':Nat->Prop} {s:Js} {k k' m fi n:Nat}
theorem AlM.lt (h:AlM G w m fi n):m<w.heap.size:=lt_of_block h.root
theorem AlM.same (h:AlM G w m fi n) (hk:w'.heap[m]?=w.heap[m]?):AlM G w' m fi n:=⟨hk.trans h.root,h.cnt⟩
theorem AlM.grown (h:AlM G w m fi n) (hb:Below w.heap.size w w'):AlM G w' m fi n:=h.same (hb.block _ h.lt)
theorem AlR.grown (h:AlR S G w m fi n) (hb:Below w.heap.size w w'):AlR S G w' m fi n:=⟨h.toAlM.grown hb,h.own⟩
theorem AlM.moves (h:AlM G w m fi n) (hm:Sh.Moves O w O' w') (hn:¬O m):AlM G w' m fi n/\¬O' m :=
 ⟨h.same (hm.1.block _ h.lt hn),fun e=>(hm.2 _ e).elim hn (fun q=>absurd h.lt (by omega))⟩
theorem AlR.moves (h:AlR S G w m fi n) (hm:Sh.Moves O w O' w') (hn:¬O m):AlR S G w' m fi n/\¬O' m:=⟨⟨(h.toAlM.moves hm hn).1,h.own⟩,(h.toAlM.moves hm hn).2⟩
theorem AlM.c0 (h:AlM G w m fi n):w.cell? ⟨m,0,none⟩=some (.pointer (some ⟨G.p,0,none⟩)):=cell_of_row _ _ 0 _ _ _ h.root
theorem AlM.c1 (h:AlM G w m fi n):w.cell? ⟨m,1,none⟩=some (.int .i64 (fi:Int)):=cell_of_row _ _ 1 _ _ _ h.root
theorem AlM.c2 (h:AlM G w m fi n):w.cell? ⟨m,2,none⟩=some (.int .i64 (n:Int)):=cell_of_row _ _ 2 _ _ _ h.root
theorem AlR.fi_lt (h:AlR S G w m fi n):fi<=65535:=by have:=(h.own 0 (by omega)).1;have:=S.nmax;omega
theorem aNone (h:AlM G w m fi n):Calls Tryz.prog 101 #[.pointer (some ⟨m,0,none⟩)] w fun e w'=>e=.returned (.bool false)/\w=w':=by
 have c0:=h.c0
 clear h
 go_enter Tryz.func101,Tryz.ntmps101
 go_wp2
 go_ret
 exact ⟨rfl,rfl⟩
theorem aBlocks (n:Nat) (w:World) (h1:1<=n) (h2:n<=1073741824):Calls Tryz.prog 49 #[.int .i64 (n:Int)] w fun e w'=>e=.returned (.int .i64 (((n-1) / 1024+1:Nat):Int))/\w=w':=by
 have q:decide ((n:Int)<1)=false:=by simp;omega
 have e1:(n:Int)-1=((n-1:Nat):Int):=by omega
 have e2:((n-1:Nat):Int).tdiv 1024=(((n-1) / 1024:Nat):Int):=by rw [show (1024:Int)=((1024:Nat):Int) from rfl,Int.ofNat_tdiv]
 have w1:IntKind.i64.wrap ((n:Int)-1)=((n-1:Nat):Int):=by rw [IntKind.wrap_i64];omega
 have hd:(n-1) / 1024<=1048576:=by omega
 have w2:IntKind.i64.wrap (((n-1) / 1024:Nat):Int)=(((n-1) / 1024:Nat):Int):=by rw [IntKind.wrap_i64];omega
 have w3:IntKind.i64.wrap ((((n-1) / 1024:Nat):Int)+1)=(((n-1) / 1024+1:Nat):Int):=by rw [IntKind.wrap_i64];omega
 clear h1 h2
 go_enter Tryz.func49,Tryz.ntmps49
 go_wp2
 go_ret
 exact ⟨by go_num,rfl⟩
theorem aBits (h:AlM G w m fi n) (hnm:¬O m) (hj:Jou S G w O s (k+2)) (i:Nat) (hi:mine S G (fi+i)):Calls Tryz.prog 100 #[.pointer (some ⟨m,0,none⟩),.int .i64 (i:Int)] w (GotJ S G w O s k (fi+i)):=by
 have c0:=h.c0
 have c1:=h.c1
 have hb:fi+i<=65535:=by have:=hi.1;have:=S.nmax;omega
 have w1:IntKind.i64.wrap ((fi:Int)+(i:Int))=((fi+i:Nat):Int):=by rw [IntKind.wrap_i64];omega
 have HR:=hid (fun W (hb:Below w.heap.size w W)=>jRead (hj.grown hb) (fi+i) hi)
 have HX:Hid (GotJ S G w O s k (fi+i)=fun e w'=>∃(A:Option Addr) (cap:Nat) (O':Nat->Prop),e=.returned (.tuple #[.slice A 128 cap,.int .i64 0])/\Jou S G w' O' s k/\Sh.Moves O w O' w'/\Sh.Bytes w w' A (s.look (fi+i))/\∀ad,A=some ad->¬O' ad.block):=hid rfl
 have HM:=hid (And.intro h.lt hnm)
 clear h hj hi hnm
 go_enter Tryz.func100,Tryz.ntmps100
 go_wp2
 refine wp_region_held_drew (S:=fun (W:World)=>W.cell? ⟨m,0,none⟩=some (.pointer (some ⟨G.p,0,none⟩))/\W.cell? ⟨m,1,none⟩=some (.int .i64 (fi:Int))) (by kernel_rfl) ⟨c0,c1⟩ (fun hHeld=>?_)
 refine tq 0 6 ?_
 refine tq 1 7 ?_
 refine tq 2 8 ?_
 refine tq 3 9 ?_
 refine tq 4 10 ?_
 refine tq 5 11 ?_
 refine tq 6 12 ?_
 refine tq 7 13 ?_
 refine tq 8 14 ?_
 refine tq 9 15 ?_
 refine rq 10 (some 16) fun K hK=>?_
 go_simp
 refine (HR.out _ (below_drewN (Below.refl _ _) 1)).mono ?_
 rintro e w1 ⟨A,cap,O1,rfl,hj,hmv,hby,hno⟩
 refine hK.out _ _ ⟨(hmv.1.cell (p:=⟨m,0,none⟩) HM.out.1 HM.out.2).trans hHeld.1,(hmv.1.cell (p:=⟨m,1,none⟩) HM.out.1 HM.out.2).trans hHeld.2⟩ (fun hHeld=>?_)
 clear hK K
 try simp only [Act.put,List.setIfInBounds_toArray,List.set_cons_zero,List.set_cons_succ]
 refine tq 11 17 ?_
 refine tq 12 18 ?_
 refine tq 13 4 ?_
 refine tq 14 5 ?_
 refine wpAnyH_done (by kernel_rfl) ?_ _
 have H1:=hid (And.intro hj (And.intro (moves_below (below_drewN (Below.refl _ w) 1) hmv) (And.intro hby hno)))
 clear hj hmv hby hno hHeld
 go_wp2
 go_ret2
 rw [HX.out]
 exact ⟨A,cap,O1,rfl,H1.out.1,H1.out.2.1,H1.out.2.2.1,H1.out.2.2.2⟩
theorem aCount (h:AlM G w m fi n):Calls Tryz.prog 56 #[.pointer (some ⟨m,0,none⟩)] w fun e w'=>e=.returned (.int .i64 (n:Int))/\w=w':=by
 have HN:=hid (aNone h)
 have c2:=h.c2
 clear h
 go_enter Tryz.func56,Tryz.ntmps56
 go_wp2_with fail
 refine HN.out.mono ?_
 rintro e w' ⟨rfl,rfl⟩
 go_wp2
 go_ret
 exact ⟨rfl,rfl⟩
end
def hereN (n i:Nat):Nat:=min 1024 (n-1024*i)
section
variable {S:StoK} {G:Jg} {w w':World} {O O':Nat->Prop} {s:Js} {k k' m fi n:Nat}
theorem aHere (h:AlR S G w m fi n) (i:Nat) (hi:i<(n-1) / 1024+1):Calls Tryz.prog 103 #[.pointer (some ⟨m,0,none⟩),.int .i64 (i:Int)] w fun e w'=>e=.returned (.int .i64 (hereN n i:Int))/\w=w':=by
 have c2:=h.c2
 have hc:=h.cnt
 have w1:IntKind.i64.wrap (1024*(i:Int))=1024*(i:Int):=by rw [IntKind.wrap_i64];omega
 have w2:IntKind.i64.wrap ((n:Int)-1024*(i:Int))=(n:Int)-1024*(i:Int):=by rw [IntKind.wrap_i64];omega
 have HX:Hid (min 1024 ((n:Int)-1024*(i:Int))=(hereN n i:Int)):=hid (by unfold hereN;omega)
 clear h hc hi
 go_enter Tryz.func103,Tryz.ntmps103
 go_wp2
 go_ret
 exact ⟨by rw [<- HX.out];rfl,rfl⟩
theorem own_div (h:AlR S G w m fi n) {i:Nat} (hi:i<n):mine S G (fi+i / 1024):=h.own _ (by omega)
theorem aAround (h:AlR S G w m fi n) (hnm:¬O m) (hj:Jou S G w O s (k+2)) (i:Nat) (hi:i<n):Calls Tryz.prog 105 #[.pointer (some ⟨m,0,none⟩),.int .i64 (i:Int)] w (GotJ S G w O s k (fi+i / 1024)):=by
 have HN:=hid (aNone h.toAlM)
 have c2:=h.c2
 have hc:=h.cnt
 have HB:=hid (aBits h.toAlM hnm hj (i / 1024) (own_div h hi))
 have HX:Hid (GotJ S G w O s k (fi+i / 1024)=fun e w'=>∃(A:Option Addr) (cap:Nat) (O':Nat->Prop),e=.returned (.tuple #[.slice A 128 cap,.int .i64 0])/\Jou S G w' O' s k/\Sh.Moves O w O' w'/\Sh.Bytes w w' A (s.look (fi+i / 1024))/\∀ad,A=some ad->¬O' ad.block):=hid rfl
 have q:decide ((i:Int)<0)=false:=by simp
 have q2:decide (n<=i)=false:=by simp;omega
 have w1:wrap64 ((i:Int) / 1024)=((i / 1024:Nat):Int):=by unfold wrap64;omega
 clear h hnm hj hi hc
 go_enter Tryz.func105,Tryz.ntmps105
 go_wp2_with fail
 refine HN.out.mono ?_
 rintro e w' ⟨rfl,rfl⟩
 go_wp2_with fail
 rw [w1]
 rw [HX.out] at HB
 refine HB.out.mono ?_
 rintro e w1 ⟨A,cap,O1,rfl,hj,hmv,hby,hno⟩
 have H1:=hid (And.intro hj (And.intro hmv (And.intro hby hno)))
 clear hj hmv hby hno HB
 go_wp2
 go_ret2
 rw [HX.out]
 exact ⟨A,cap,O1,rfl,H1.out.1,H1.out.2.1,H1.out.2.2.1,H1.out.2.2.2⟩
theorem small_look (hj:Jou S G w O s k) (b:Nat) (hb:mine S G b):Small (s.look b):=(hj.sec b hb.1).2
theorem aTurn (h:AlR S G w m fi n) (hnm:¬O m) (hj:Jou S G w O s k) (i:Nat) (hi:i<n) (on:Bool) {A:Option Addr} (cap:Nat) (hA:Reads w w.heap.size A 128 (bts (s.look (fi+i / 1024)))) (hf:rget s.R (fi+i / 1024)≠none\/s.R.length<24) :
  Calls Tryz.prog 104 #[.pointer (some ⟨m,0,none⟩),.slice A 128 cap,.int .i64 (i:Int),.bool on] w fun e w'=>e=.returned (.int .i64 0)/\Jou S G w' O (s.put (fi+i / 1024) (withL (s.look (fi+i / 1024)) (i%1024) on)) k/\Sh.Moves O w O w':=by
 have hmn:=own_div h hi
 have hsec:=hj.sec _ hmn.1
 have HWI:=hid (with_ok A 128 cap w.heap.size (i%1024) on (s.look (fi+i / 1024)) w hsec.2 hA (Nat.le_refl _) (by decide) (by omega))
 have hws:Sh.Sec (withL (s.look (fi+i / 1024)) (i%1024) on):=⟨by rw [withL_length];exact hsec.1,withOn_small hsec.2 _ _⟩
 have hfi:=h.fi_lt
 have hc:=h.cnt
 have wq:IntKind.i64.wrap ((i:Int) / 1024)=((i / 1024:Nat):Int):=by rw [IntKind.wrap_i64];omega
 have wa:IntKind.i64.wrap ((fi:Int)+(i:Int) / 1024)=((fi+i / 1024:Nat):Int):=by rw [IntKind.wrap_i64];omega
 have hi2:i<=4096:=by omega
 have HH:=hid (And.intro h (And.intro hnm (And.intro hj (And.intro hmn (And.intro hws hf)))))
 generalize withL (s.look (fi+i / 1024)) (i%1024) on=x at *
 clear h hnm hj hmn hsec hA hf hws hc hi
 unfold Made at HWI
 go_enter Tryz.func104,Tryz.ntmps104
 go_wp2_with fail
 refine HWI.out.mono ?_
 rintro e w1 ⟨v,rfl,hown,hb⟩
 have hlen:=HH.out.2.2.2.2.1.1
 rw [hlen] at hown
 have hlow:=hown.lt
 obtain ⟨B,cp,rfl,hrd,_,_⟩:=own_shape hown
 have hm1:=HH.out.1.grown hb
 have c0:=hm1.c0
 have c1:=hm1.c1
 have hbs:Sh.Beside w1 O B x:=⟨hrd,fun a ha e=>by have h1:=HH.out.2.2.1.lt _ e;have h2:=(hlow a.block (by rw [ha];rfl)).1;omega⟩
 have HW:=hid (fun (W:World) (hB:Below w1.heap.size w1 W)=>jWrite (HH.out.2.2.1.grown (hb.trans (hB.mono hb.size))) (fi+i / 1024) HH.out.2.2.2.1 cp (beside_below hbs hB) HH.out.2.2.2.2.1 HH.out.2.2.2.2.2)
 have HM:=hid (And.intro hm1.lt (And.intro HH.out.2.1 hb))
 clear hown hrd hlow hm1 hbs hb HWI hlen
 go_wp2
 refine wp_region_held_drew (S:=fun (W:World)=>W.cell? ⟨m,0,none⟩=some (.pointer (some ⟨G.p,0,none⟩))/\W.cell? ⟨m,1,none⟩=some (.int .i64 (fi:Int))) (by kernel_rfl) ⟨c0,c1⟩ (fun hHeld=>?_)
 refine tq 0 17 ?_
 refine tq 1 18 ?_
 refine tq 2 19 ?_
 refine tq 3 20 ?_
 refine tq 4 21 ?_
 refine tq 5 22 ?_
 refine tq 6 23 ?_
 refine tq 7 24 ?_
 refine tq 8 25 ?_
 refine tq 9 26 ?_
 refine tq 10 27 ?_
 refine tq 11 28 ?_
 refine rq 12 (some 29) fun K hK=>?_
 go_simp
 rw [show (fi:Int)+(i:Int) / 1024=((fi+i / 1024:Nat):Int) from by omega]
 refine (HW.out _ (below_drewN (Below.refl _ _) 1)).mono ?_
 rintro e w2 ⟨rfl,hj,hmv⟩
 refine hK.out _ _ ⟨(hmv.1.cell (p:=⟨m,0,none⟩) HM.out.1 HM.out.2.1).trans hHeld.1,(hmv.1.cell (p:=⟨m,1,none⟩) HM.out.1 HM.out.2.1).trans hHeld.2⟩ (fun hHeld=>?_)
 clear hK K
 try simp only [Act.put,List.setIfInBounds_toArray,List.set_cons_zero,List.set_cons_succ]
 refine tq 13 8 ?_
 refine wpAnyH_done (by kernel_rfl) ?_ _
 have H1:=hid (And.intro hj (moves_below HM.out.2.2 (moves_below (below_drewN (Below.refl _ w1) 1) hmv)))
 clear hj hmv hHeld
 go_wp2
 go_ret
 exact ⟨rfl,H1.out.1,H1.out.2⟩
end
def cntA (f:Nat->Sh.Bs) (fi:Nat):Nat->Nat
 | 0=>0
 | j+1=>cntA f fi j+if tkA f fi j=true then 1 else 0
theorem cntA_le (f:Nat->Sh.Bs) (fi:Nat):∀j,cntA f fi j<=j
 | 0=>Nat.le_refl _
 | j+1=>by unfold cntA;have:=cntA_le f fi j;split<;>omega
theorem tk_at (f:Nat->Sh.Bs) (fi i:Nat) {b:Nat} (h:b<1024):tkA f fi (1024*i+b)=bitB (f (fi+i)) b:=by
 unfold tkA
 rw [show (1024*i+b) / 1024=i by omega,show (1024*i+b)%1024=b by omega]
theorem cntA_block (f:Nat->Sh.Bs) (fi i:Nat):∀m,m<=1024->cntA f fi (1024*i+m)=cntA f fi (1024*i)+cnt (f (fi+i)) m
 | 0,_=>by rw [cnt_zero];rfl
 | m+1,h=>by
  rw [show 1024*i+(m+1)=(1024*i+m)+1 by omega,cntA,cntA_block f fi i m (by omega),tk_at f fi i (by omega),cnt_succ,Nat.add_assoc]
section
variable {S:StoK} {G:Jg} {w w':World} {O O':Nat->Prop} {s:Js} {k k' m fi n:Nat}
theorem gotJ_def (S:StoK) (G:Jg) (w:World) (O:Nat->Prop) (s:Js) (k b:Nat):Hid (GotJ S G w O s k b=fun e w'=>∃(A:Option Addr) (cap:Nat) (O':Nat->Prop),e=.returned (.tuple #[.slice A 128 cap,.int .i64 0])/\Jou S G w' O' s k/\Sh.Moves O w O' w'/\Sh.Bytes w w' A (s.look b)/\∀ad,A=some ad->¬O' ad.block):=hid rfl
theorem aGive_free (h:AlR S G w m fi n) (hnm:¬O m) (hj:Jou S G w O s (k+2)) (i:Nat) (hi:i<n) (ht:tkA s.look fi i=false):Calls Tryz.prog 48 #[.pointer (some ⟨m,0,none⟩),.int .i64 (i:Int)] w fun e w' =>
  ∃O',e=.returned (.int .i64 9)/\Jou S G w' O' s k/\Sh.Moves O w O' w':=by
 have HA:=hid (aAround h hnm hj i hi)
 have HX:=gotJ_def S G w O s k (fi+i / 1024)
 have HS:=hid (small_look hj _ (own_div h hi))
 have HT:Hid (bitB (s.look (fi+i / 1024)) (i%1024)=false):=hid ht
 have w1:IntKind.i64.wrap ((i%1024:Nat):Int)=((i%1024:Nat):Int):=by rw [IntKind.wrap_i64];omega
 have hlt:i%1024<1024:=Nat.mod_lt _ (by decide)
 clear h hnm hj hi ht
 go_enter Tryz.func48,Tryz.ntmps48
 go_wp2_with fail
 rw [HX.out] at HA
 refine HA.out.mono ?_
 rintro e w1 ⟨A,cap,O1,rfl,hj,hmv,hby,hno⟩
 have HH:=hid (has_int A 128 cap w1.heap.size ((i%1024:Nat):Int) (s.look (fi+i / 1024)) w1 HS.out hby.1 (by decide) (by omega) (by omega))
 rw [Int.toNat_natCast,HT.out] at HH
 have H1:=hid (And.intro hj hmv)
 clear hj hmv hby hno HA
 go_wp2_with fail
 refine HH.out.mono ?_
 rintro e w' ⟨rfl,rfl⟩
 go_wp2
 go_ret
 exact ⟨O1,rfl,H1.out.1,H1.out.2⟩
theorem aGive (h:AlR S G w m fi n) (hnm:¬O m) (hj:Jou S G w O s (k+2)) (i:Nat) (hi:i<n) (ht:tkA s.look fi i=true) (hf:rget s.R (fi+i / 1024)≠none\/s.R.length<24):Calls Tryz.prog 48 #[.pointer (some ⟨m,0,none⟩),.int .i64 (i:Int)] w fun e w' =>
  ∃O',e=.returned (.int .i64 0)/\Jou S G w' O' (s.put (fi+i / 1024) (withL (s.look (fi+i / 1024)) (i%1024) false)) k/\Sh.Moves O w O' w':=by
 have HA:=hid (aAround h hnm hj i hi)
 have HX:=gotJ_def S G w O s k (fi+i / 1024)
 have HS:=hid (small_look hj _ (own_div h hi))
 have HT:Hid (bitB (s.look (fi+i / 1024)) (i%1024)=true):=hid ht
 have w1:IntKind.i64.wrap ((i%1024:Nat):Int)=((i%1024:Nat):Int):=by rw [IntKind.wrap_i64];omega
 have hlt:i%1024<1024:=Nat.mod_lt _ (by decide)
 have HM:=hid (And.intro h (And.intro hnm (And.intro hi hf)))
 clear h hnm hj hi ht hf
 go_enter Tryz.func48,Tryz.ntmps48
 go_wp2_with fail
 rw [HX.out] at HA
 refine HA.out.mono ?_
 rintro e w1 ⟨A,cap,O1,rfl,hj,hmv,hby,hno⟩
 have HH:=hid (has_int A 128 cap w1.heap.size ((i%1024:Nat):Int) (s.look (fi+i / 1024)) w1 HS.out hby.1 (by decide) (by omega) (by omega))
 rw [Int.toNat_natCast,HT.out] at HH
 obtain ⟨hr1,hn1⟩:=HM.out.1.moves hmv HM.out.2.1
 have HTU:=hid (aTurn hr1 hn1 hj i HM.out.2.2.1 false cap hby.1 HM.out.2.2.2)
 have H1:=hid hmv
 clear hj hmv hby hno HA hr1 hn1
 go_wp2_with fail
 refine HH.out.mono ?_
 rintro e w' ⟨rfl,rfl⟩
 go_wp2_with fail
 refine HTU.out.mono ?_
 rintro e w2 ⟨rfl,hj,hmv⟩
 have H2:=hid (And.intro hj (H1.out.trans hmv))
 clear hj hmv HTU
 go_wp2
 go_ret
 exact ⟨O1,rfl,H2.out.1,H2.out.2⟩
end
section
variable {S:StoK} {G:Jg} {w w':World} {O O':Nat->Prop} {s:Js} {k k' m fi n:Nat}
def TakeR (S:StoK) (G:Jg) (w:World) (O:Nat->Prop) (s:Js) (k fi n:Nat) (e:Ending) (w':World):Prop :=
 ∃O',Sh.Moves O w O' w' /\
  ((∃i,i<n/\tkA s.look fi i=false/\(∀j,j<i->tkA s.look fi j=true)/\e=.returned (.tuple #[.int .i64 (i:Int),.int .i64 0])/\Jou S G w' O' (s.put (fi+i / 1024) (withL (s.look (fi+i / 1024)) (i%1024) true)) k) \/
   ((∀j,j<n->tkA s.look fi j=true)/\e=.returned (.tuple #[.int .i64 0,.int .i64 27])/\Jou S G w' O' s k))
set_option maxRecDepth 20000 in
theorem aTake (h:AlR S G w m fi n) (hnm:¬O m) (hj:Jou S G w O s (k+10)) (hf:∀i,i<(n-1) / 1024+1->rget s.R (fi+i)≠none\/s.R.length<24) :
  Calls Tryz.prog 47 #[.pointer (some ⟨m,0,none⟩)] w (TakeR S G w O s k fi n):=by
 have HN:=hid (aNone h.toAlM)
 have c2:=h.c2
 have hc:=h.cnt
 have HBL:=hid (aBlocks n w hc.1 (by omega))
 have HH:=hid (And.intro h (And.intro hnm (And.intro hj hf)))
 have HC:=hid hc
 generalize hbk:(n-1) / 1024+1=bk at *
 have HBK:=hid hbk
 have hbk4:bk<=4:=by omega
 clear h hnm hj hf hbk hc
 go_enter Tryz.func47,Tryz.ntmps47
 go_wp2_with fail
 refine HN.out.mono ?_
 rintro e w' ⟨rfl,rfl⟩
 go_wp2_with fail
 refine HBL.out.mono ?_
 rintro e w' ⟨rfl,rfl⟩
 go_wp2
 clear HN HBL
 go_loopw [4,5,6,7,8,9,10,18] (fun s4 s5 s6 s7 s8 s9 s10 s18 wr=>∃i Oi,i<=bk/\s18=.int .i64 ((i:Nat):Int)/\Hid (Jou S G wr Oi s (k+10-2*i)/\Sh.Moves O w Oi wr/\AlR S G wr m fi n/\¬Oi m/\∀j,j<1024*i->j<n->tkA s.look fi j=true)) (fun _ _ _ _ _ _ _ i _=>10-(intOf i).toNat)
 case atStart=>exact ⟨0,O,Nat.zero_le _,rfl,hid ⟨HH.out.2.2.1,Sh.Moves.refl _ _,HH.out.1,HH.out.2.1,fun j hj=>absurd hj (by omega)⟩⟩
 case round =>
  obtain ⟨i,Oi,hi,rfl,hR⟩:=hrel
  by_cases hlt:i<bk
  ·have q:decide (i<bk)=true:=by simpa using hlt
   have HB:=hid (aBits hR.out.2.2.1.toAlM hR.out.2.2.2.1 (hR.out.1.less (show k+10-2*(i+1)+2<=k+10-2*i by omega)) i (hR.out.2.2.1.own i (by have:=HBK.out;omega)))
   have HX:=gotJ_def S G wr Oi s (k+10-2*(i+1)) (fi+i)
   go_wp2_with fail
   rw [HX.out] at HB
   refine HB.out.mono ?_
   rintro e w1 ⟨A,cap,O1,rfl,hj,hmv,hby,hno⟩
   obtain ⟨hr1,hn1⟩:=hR.out.2.2.1.moves hmv hR.out.2.2.2.1
   have HHE:=hid (aHere hr1 i (by have:=HBK.out;omega))
   have hsm:=small_look hj (fi+i) (hr1.own i (by have:=HBK.out;omega))
   have hhn:hereN n i<=1024:=by unfold hereN;omega
   have HFR:=hid (free_any A 128 cap w1.heap.size 0 (s.look (fi+i)) 0 (hereN n i:Int) w1 hsm hby.1 (by decide) (by decide) (by decide) (by decide) (by omega) (by omega))
   have H1:=hid (And.intro hj (And.intro (hR.out.2.1.trans hmv) (And.intro hr1 (And.intro hn1 hby.1))))
   clear hj hmv hby hno hr1 hn1 hsm HB
   go_wp2_with fail
   refine HHE.out.mono ?_
   rintro e w2 ⟨rfl,rfl⟩
   unfold Found at HFR
   go_wp2_with fail
   refine HFR.out.mono ?_
   rintro e w2 ⟨r,hfree,rfl,rfl⟩
   clear HFR HHE
   cases r with
   | none =>
    have hlen:(s.look (fi+i)).length=128:=(H1.out.1.sec _ (H1.out.2.2.1.own i (by have:=HBK.out;omega)).1).1
    have HALL:Hid (∀j,j<1024*(i+1)->j<n->tkA s.look fi j=true):=hid fun j hj hjn=>by
     by_cases h2:j<1024*i
     ·exact hR.out.2.2.2.2 j h2 hjn
     ·have h3:j=1024*i+(j-1024*i):=by omega
      rw [h3,tk_at _ _ _ (by omega)]
      exact hfree (j-1024*i) (by omega) (by unfold hereN;omega) (by omega)
    clear hfree hlen
    go_wp2
    go_roundw
    case rel=>exact ⟨i+1,O1,by omega,by go_num,hid ⟨H1.out.1,H1.out.2.1,H1.out.2.2.1,H1.out.2.2.2.1,HALL.out⟩⟩
    case measure=>simp [intOf];omega
   | some b =>
    obtain ⟨hb1,hb2,_,hb4,hb5⟩:=hfree
    have hb3:b<hereN n i:=by omega
    have hbn:1024*i+b<n/\b<1024:=by unfold hereN at hb3;omega
    have ed:(1024*i+b) / 1024=i:=by omega
    have em:(1024*i+b)%1024=b:=by omega
    have HT:=hid (aTurn H1.out.2.2.1 H1.out.2.2.2.1 H1.out.1 (1024*i+b) hbn.1 true cap (by rw [ed];exact H1.out.2.2.2.2) (by rw [ed];exact HH.out.2.2.2 i hlt))
    have HBB:Hid (1024*i+b<n/\tkA s.look fi (1024*i+b)=false/\∀j,j<1024*i+b->tkA s.look fi j=true):=hid ⟨hbn.1,by rw [tk_at _ _ _ hbn.2];exact hb4,fun j hj=>by
     by_cases h2:j<1024*i
     ·exact hR.out.2.2.2.2 j h2 (by omega)
     ·have h3:j=1024*i+(j-1024*i):=by omega
      rw [h3,tk_at _ _ _ (by omega)]
      exact hb5 (j-1024*i) (by omega) (by omega)⟩
    have hbb:1024*i+b<=4096:=by have:=HC.out;omega
    clear hb1 hb2 hb3 hb4 hb5 ed em
    go_wp2_with fail
    rw [show (1024*(i:Int))+(b:Int)=((1024*i+b:Nat):Int) from by omega]
    refine HT.out.mono ?_
    rintro e w2 ⟨rfl,hj2,hmv2⟩
    have H2:=hid (And.intro hj2 (H1.out.2.1.trans hmv2))
    clear hj2 hmv2 HT
    go_wp2
    go_ret2
    exact ⟨O1,H2.out.2,.inl ⟨1024*i+b,HBB.out.1,HBB.out.2.1,HBB.out.2.2,(by go_num),H2.out.1.less (by omega)⟩⟩
  ·obtain rfl:i=bk:=by omega
   have HALL:Hid (∀j,j<n->tkA s.look fi j=true):=hid fun j hj=>hR.out.2.2.2.2 j (by have:=HBK.out;omega) hj
   go_wp2
   go_ret2
   exact ⟨Oi,hR.out.2.1,.inr ⟨HALL.out,rfl,hR.out.1.less (by omega)⟩⟩
set_option maxRecDepth 20000 in
theorem aFree (h:AlR S G w m fi n) (hnm:¬O m) (hj:Jou S G w O s (k+10)):Calls Tryz.prog 54 #[.pointer (some ⟨m,0,none⟩)] w fun e w' =>
  ∃O',e=.returned (.tuple #[.int .i64 ((n-cntA s.look fi n:Nat):Int),.int .i64 0])/\Jou S G w' O' s k/\Sh.Moves O w O' w':=by
 have HN:=hid (aNone h.toAlM)
 have c2:=h.c2
 have hc:=h.cnt
 have HBL:=hid (aBlocks n w hc.1 (by omega))
 have HH:=hid (And.intro h (And.intro hnm hj))
 have HC:=hid hc
 have HLE:=hid (cntA_le s.look fi)
 generalize hbk:(n-1) / 1024+1=bk at *
 have HBK:=hid hbk
 have hbk4:bk<=4:=by omega
 have hn4:n<=4096:=hc.2
 clear h hnm hj hbk hc
 go_enter Tryz.func54,Tryz.ntmps54
 go_wp2_with fail
 refine HN.out.mono ?_
 rintro e w' ⟨rfl,rfl⟩
 go_wp2_with fail
 refine HBL.out.mono ?_
 rintro e w' ⟨rfl,rfl⟩
 go_wp2
 clear HN HBL
 go_loopw [4,5,6,7,19] (fun s4 s5 s6 s7 s19 wr=>∃(i:Nat) (Oi:Nat->Prop) (z:Nat),i<=bk/\s19=.int .i64 ((i:Nat):Int)/\s4=.int .i64 ((z:Nat):Int)/\z<=4096/\Hid (z=n-cntA s.look fi (min n (1024*i))/\Jou S G wr Oi s (k+10-2*i)/\Sh.Moves O w Oi wr/\AlR S G wr m fi n/\¬Oi m)) (fun _ _ _ _ i _=>10-(intOf i).toNat)
 case atStart=>exact ⟨0,O,n,Nat.zero_le _,rfl,rfl,hn4,hid ⟨by rw [show min n (1024*0)=0 by omega];rfl,HH.out.2.2,Sh.Moves.refl _ _,HH.out.1,HH.out.2.1⟩⟩
 case round =>
  obtain ⟨i,Oi,z,hi,rfl,rfl,hz,hR⟩:=hrel
  by_cases hlt:i<bk
  ·have q:decide (i<bk)=true:=by simpa using hlt
   have HB:=hid (aBits hR.out.2.2.2.1.toAlM hR.out.2.2.2.2 (hR.out.2.1.less (show k+10-2*(i+1)+2<=k+10-2*i by omega)) i (hR.out.2.2.2.1.own i (by have:=HBK.out;omega)))
   have HX:=gotJ_def S G wr Oi s (k+10-2*(i+1)) (fi+i)
   go_wp2_with fail
   rw [HX.out] at HB
   refine HB.out.mono ?_
   rintro e w1 ⟨A,cap,O1,rfl,hj,hmv,hby,hno⟩
   obtain ⟨hr1,hn1⟩:=hR.out.2.2.2.1.moves hmv hR.out.2.2.2.2
   have HHE:=hid (aHere hr1 i (by have:=HBK.out;omega))
   have hsm:=small_look hj (fi+i) (hr1.own i (by have:=HBK.out;omega))
   have hhn:hereN n i<=1024:=by unfold hereN;omega
   have HCT:=hid (count_any A 128 cap w1.heap.size (hereN n i) (s.look (fi+i)) (hereN n i:Int) w1 hsm hby.1 (by decide) (by omega))
   have hcb:cntA s.look fi (min n (1024*(i+1)))=cntA s.look fi (min n (1024*i))+cnt (s.look (fi+i)) (hereN n i):=by
    have:=HBK.out
    rw [show min n (1024*(i+1))=1024*i+hereN n i by unfold hereN;omega,show min n (1024*i)=1024*i by omega]
    exact cntA_block _ _ _ _ hhn
   have hle1:=HLE.out (min n (1024*(i+1)))
   have hz2:(z:Int)-(cnt (s.look (fi+i)) (hereN n i):Int)=((z-cnt (s.look (fi+i)) (hereN n i):Nat):Int):=by have:=hR.out.1;omega
   have hz3:z-cnt (s.look (fi+i)) (hereN n i)=n-cntA s.look fi (min n (1024*(i+1))):=by have:=hR.out.1;omega
   have hcz:cnt (s.look (fi+i)) (hereN n i)<=1024:=Nat.le_trans (cnt_le _ _) hhn
   have H1:=hid (And.intro hj (And.intro (hR.out.2.2.1.trans hmv) (And.intro hr1 (And.intro hn1 (And.intro hz2 hz3)))))
   clear hj hmv hby hno hr1 hn1 hsm HB hcb hle1 hz2 hz3
   generalize cnt (s.look (fi+i)) (hereN n i)=cc at *
   go_wp2_with fail
   refine HHE.out.mono ?_
   rintro e w2 ⟨rfl,rfl⟩
   go_wp2_with fail
   refine HCT.out.mono ?_
   rintro e w2 ⟨rfl,rfl⟩
   clear HCT HHE
   go_wp2
   go_roundw
   case rel=>exact ⟨i+1,O1,z-cc,by omega,by go_num,by rw [<- H1.out.2.2.2.2.1],by omega,hid ⟨H1.out.2.2.2.2.2,H1.out.1,H1.out.2.1,H1.out.2.2.1,H1.out.2.2.2.1⟩⟩
   case measure=>simp [intOf];omega
  ·obtain rfl:i=bk:=by omega
   have HZ:Hid (z=n-cntA s.look fi n):=hid (by rw [hR.out.1,show min n (1024*i)=n by have:=HBK.out;omega])
   go_wp2
   go_ret2
   exact ⟨Oi,by rw [<- HZ.out];rfl,hR.out.2.1.less (by omega),hR.out.2.2.1⟩
end
section
variable {S:StoK} {G:Jg} {w w':World} {O O':Nat->Prop} {s:Js} {k k' m fi n:Nat}
def OpenA (S:StoK) (G:Jg) (w:World) (O:Nat->Prop) (s:Js) (k fi n:Nat) (e:Ending) (w':World):Prop :=
 ∃(m:Nat) (O':Nat->Prop),e=.returned (.tuple #[.pointer (some ⟨m,0,none⟩),.int .i64 0])/\AlR S G w' m fi n/\¬O' m/\Jou S G w' O' s k/\Sh.Moves O w O' w'/\w.heap.size<=m
theorem aOpen (hj:Jou S G w O s (k+10)) (fi n:Nat) (hn:1<=n/\n<=4096) (hown:∀i,i<(n-1) / 1024+1->mine S G (fi+i)) :
  Calls Tryz.prog 46 #[.pointer (some ⟨G.p,0,none⟩),.int .i64 (fi:Int),.int .i64 (n:Int)] w (OpenA S G w O s k fi n):=by
 have HBL:=hid (fun w=>aBlocks n w hn.1 (by omega))
 have q1:decide ((fi:Int)<0)=false:=by simp
 have q2:decide ((n:Int)<1)=false:=by simp;omega
 have q3:decide ((n:Int)>4096)=false:=by simp;omega
 have HA:=hid (And.intro (heap_alloc_new w (.cells #[.pointer (some ⟨G.p,0,none⟩),.int .i64 (fi:Int),.int .i64 (n:Int)] 160)) (And.intro (show ¬O w.heap.size from fun e=>Nat.lt_irrefl _ (hj.lt _ e)) (And.intro hj (And.intro hn hown))))
 generalize hbk:(n-1) / 1024+1=bk at *
 have HBK:=hid hbk
 have hbk4:bk<=4:=by omega
 clear hj hown hbk hn
 unfold OpenA
 go_enter Tryz.func46,Tryz.ntmps46
 go_wp2_with fail
 refine (HBL.out _).mono ?_
 rintro e w' ⟨rfl,rfl⟩
 go_wp2
 have hb1:Below w.heap.size w (w.alloc (.cells #[.pointer (some ⟨G.p,0,none⟩),.int .i64 (fi:Int),.int .i64 (n:Int)] 160)):=(Below.refl _ _).alloc (Nat.le_refl _) _
 have HM0:Hid (AlM G (w.alloc (.cells #[.pointer (some ⟨G.p,0,none⟩),.int .i64 (fi:Int),.int .i64 (n:Int)] 160)) w.heap.size fi n/\Jou S G (w.alloc (.cells #[.pointer (some ⟨G.p,0,none⟩),.int .i64 (fi:Int),.int .i64 (n:Int)] 160)) O s (k+10)/\Below w.heap.size w (w.alloc (.cells #[.pointer (some ⟨G.p,0,none⟩),.int .i64 (fi:Int),.int .i64 (n:Int)] 160))):=hid ⟨⟨HA.out.1,HA.out.2.2.2.1⟩,HA.out.2.2.1.grown hb1,hb1⟩
 clear hb1
 generalize w.alloc (.cells #[.pointer (some ⟨G.p,0,none⟩),.int .i64 (fi:Int),.int .i64 (n:Int)] 160)=w1 at *
 clear HBL
 go_loopw [9,10,11,33] (fun s9 s10 s11 s33 wr=>∃i Oi,i<=bk/\s33=.int .i64 ((i:Nat):Int)/\Hid (Jou S G wr Oi s (k+10-2*i)/\Sh.Moves O w1 Oi wr/\AlM G wr w.heap.size fi n/\¬Oi w.heap.size)) (fun _ _ _ i _=>10-(intOf i).toNat)
 case atStart=>exact ⟨0,O,Nat.zero_le _,rfl,hid ⟨HM0.out.2.1,Sh.Moves.refl _ _,HM0.out.1,HA.out.2.1⟩⟩
 case round =>
  obtain ⟨i,Oi,hi,rfl,hR⟩:=hrel
  by_cases hlt:i<bk
  ·have q:decide (i<bk)=true:=by simpa using hlt
   have HB:=hid (aBits hR.out.2.2.1 hR.out.2.2.2 (hR.out.1.less (show k+10-2*(i+1)+2<=k+10-2*i by omega)) i (HA.out.2.2.2.2 i hlt))
   have HX:=gotJ_def S G wr Oi s (k+10-2*(i+1)) (fi+i)
   go_wp2_with fail
   rw [HX.out] at HB
   refine HB.out.mono ?_
   rintro e w2 ⟨A,cap,O1,rfl,hj,hmv,hby,hno⟩
   obtain ⟨hr1,hn1⟩:=hR.out.2.2.1.moves hmv hR.out.2.2.2
   have H1:=hid (And.intro hj (And.intro (hR.out.2.1.trans hmv) (And.intro hr1 hn1)))
   clear hj hmv hby hno hr1 hn1 HB
   go_wp2
   go_roundw
   case rel=>exact ⟨i+1,O1,by omega,by go_num,hid H1.out⟩
   case measure=>simp [intOf];omega
  ·obtain rfl:i=bk:=by omega
   go_wp2
   go_ret2
   exact ⟨w.heap.size,Oi,rfl,⟨hR.out.2.2.1,by rw [HBK.out];exact HA.out.2.2.2.2⟩,hR.out.2.2.2,hR.out.1.less (by omega),moves_below HM0.out.2.2 hR.out.2.1,Nat.le_refl _⟩
end
/-! ### no map -/
end Go.Proofs.YtcnjpmcelihknaaGreatDoor.Kj
