/-
  RaidForeign is true: a shelf on whose disks anything stands is no array, or one; what is asked of it then is answered, or refused.
  Conditions: the package-level variables start as the program's text lays them.
-/
import Derived.Test.YthhldceidmphfaaGreatDoorF37
import Derived.Test.YthhldceidmphfaaGreatDoorF38
import Derived.Test.YthhldceidmphfaaGreatDoorF39
import Derived.Test.YthhldceidmphfaaGreatDoorF40
namespace Go.Proofs.YthhldceidmphfaaGreatDoor.U.raidForeign
abbrev SupsAre:=@Go.Proofs.YthhldceidmphfaaGreatDoor.S.SupsAre
theorem sups_in {H:Type} {enc:TypeId × Value→H} {W:World} {fuel n c:Nat} {A:Option Addr} {x:DataW H × List MemPlace} (h:DataW.trod enc Tryz.prog W 0 (fun _=>true) true fuel 60 [.slice A n c]=some x)
  (hw:∀k∈x.1.weights Tryz.prog 60,k≤reachBytes):∃ss,SupsAre W W.heap.size A n ss∧n*64≤140737488351232:=Go.Proofs.YthhldceidmphfaaGreatDoor.S.sups_in h hw
open Go.ChangeShapes Go.WideShapes Go.ChangeAt Go.RowKit Go.Maps
theorem walk {w:World} (ds:Int) (ha:-9223372036854775808≤ds) (hb:ds≤9223372036854775807) (A1:Option Addr) (n1 c1:Nat) (ss:List Go.Proofs.YthhldceidmphfaaGreatDoor.S.Sup) (rd:SupsAre w w.heap.size A1 n1 ss) (hb1:n1*64≤140737488351232) (A2:Option Addr) (n2 c2:Nat) (f:Nat→Sh.Op8) (hl:Sh.Ops8 w A2 n2 f) (hA:All w) :
  Calls Tryz.prog 11 #[.int .i64 ds,.slice A1 n1 c1,.slice A2 n2 c2] w fun e w'=>e=.returned (.bool true)∧Below w.heap.size w w':=by
 by_cases h1:n1≤20
 ·by_cases h2:n2≤30
  ·exact p1.walk ds ha hb A1 n1 c1 ss rd hb1 A2 n2 c2 f hl hA h1 h2
  ·exact p2.walk ds ha hb A1 n1 c1 ss rd hb1 A2 n2 c2 f hl hA h1 (by omega)
 ·by_cases h2:n2≤30
  ·exact p3.walk ds ha hb A1 n1 c1 ss rd hb1 A2 n2 c2 f hl hA (by omega) h2
  ·exact p4.walk ds ha hb A1 n1 c1 ss rd hb1 A2 n2 c2 f hl hA (by omega) (by omega)
set_option maxRecDepth 100000 in
theorem contract (H:Type) (enc:TypeId × Value→H) (W:World) (base:Nat) (args:Array Value) (ds gs:List (DataW H)) (before:List MemPlace)
  (hval:∀(j:Nat) t v,Tryz.f11.params[j]?=some t→args[j]?=some v→Value.okWide Tryz.prog W .any base t v)
  (hW:DataW.Whole enc Tryz.prog Tryz.f11.params.toList Rows.raidForeignSpec.vars false W args.toList ds gs before)
  (hsz:(DataW.weightsEach Tryz.prog (Tryz.f11.params.toList++(OpenSpec.ofChange Rows.raidForeignSpec).bare.plain.varTypes Tryz.prog) (ds++gs)).all (·≤reachBytes)=true) (hL:laidMetH Tryz.prog laidBoth W) :
  Calls Tryz.prog 11 args W fun e W'=>∃v,e=.returned v∧Rows.raidForeignSpec.post enc Tryz.prog Tryz.f11 false true false false W args v W':=by
 have hW':=hW
 obtain ⟨p,q,hA0,hV,rfl,hfz,hnd⟩:=hW
 have hA:DataW.TrodAll enc Tryz.prog W 0 (fun _=>true) true Tryz.f11.params.toList args.toList ds p:=hA0
 have hsz2:(DataW.weightsEach Tryz.prog (Tryz.f11.params.toList++[]) (ds++gs)).all (·≤reachBytes)=true:=hsz
 rw [Tryz.params11] at hA hval hsz2
 obtain ⟨v0,vs0,d0,ds0,p0,q0,hargs,rfl,rfl,h0,r0⟩:=trodAll_cons hA
 obtain ⟨v1,vs1,d1,ds1,p1,q1,rfl,rfl,rfl,h1,r1⟩:=trodAll_cons r0
 obtain ⟨v2,vs2,d2,ds2,p2,q2,rfl,rfl,rfl,h2,r2⟩:=trodAll_cons r1
 obtain ⟨rfl,rfl,rfl⟩:=trodAll_nil r2
 obtain rfl:args=#[v0,v1,v2]:=by cases args;simp_all
 obtain ⟨rfl,rfl⟩:=trodVars_none hV
 obtain ⟨a0,rfl,rfl,rfl,w0⟩:=open_int Tryz.underlying3 (hval 0 3 v0 rfl rfl) h0
 have bd0:=bounds_i64 w0
 obtain ⟨A1,n1,c1,rfl⟩:=okWide_slice Tryz.underlying60 (hval 1 60 v1 rfl rfl)
 have k1:=h1
 have lt1:∀x∈p1,x.block<W.heap.size:=by obtain ⟨m,hm⟩:=k1;exact DataW.trod_lt m _ _ _ hm
 have hw1:∀m∈d1.weights Tryz.prog 60,m≤reachBytes:=fun m hm=>by simpa using List.all_eq_true.1 hsz2 m (DataW.weights_mem_each (j:=1) (t:=60) rfl rfl m hm)
 obtain ⟨ss1,rd1,b1⟩:∃ss,SupsAre W W.heap.size A1 n1 ss∧n1*64≤140737488351232:=by obtain ⟨fuel,hf⟩:=h1;exact sups_in (by simpa [Value.cells] using hf) hw1
 obtain ⟨A2,n2,c2,rfl⟩:=okWide_slice Tryz.underlying22 (hval 2 22 v2 rfl rfl)
 have k2:=h2
 have lt2:∀x∈p2,x.block<W.heap.size:=by obtain ⟨m,hm⟩:=k2;exact DataW.trod_lt m _ _ _ hm
 obtain ⟨f2,hl2⟩:∃f,Sh.Ops8 W A2 n2 f:=by obtain ⟨fuel,hf⟩:=h2;exact Sh.ops_in (by simpa [Value.cells] using hf)
 have hT:=tabs_of_laid hL
 refine (walk a0 bd0.1 bd0.2 A1 n1 c1 ss1 rd1 b1 A2 n2 c2 f2 hl2 hT).mono fun e W' ⟨he,bel⟩=>?_
 subst he
 exact ⟨_,rfl,_,_,_,[],_,[],hW',trodAll_mk1 (shut_bool Tryz.underlying4 _),(trodAll_cons_mk (shut_int Tryz.underlying3 w0) (trodAll_cons_mk (Below.trod laidOut (by kernel_rfl) (of_decide_eq_true (by kernel_rfl)) k1 bel lt1) (trodAll_cons_mk (Below.trod laidOut (by kernel_rfl) (of_decide_eq_true (by kernel_rfl)) k2 bel lt2) trodAll_mk0))),rfl,bel.frame _,fun h=>by cases h⟩
theorem laid_met (os:Os):laidMetH Tryz.prog laidBoth ((laidWorld os).forCall (fun _ _=>0) ⟨#[],#[.int .i64 0,.slice none 0 0,.slice none 0 0],[]⟩).memory :=
 laidMetH_of_parts3 (fuel:=8) (laidMet_of_run' 8 (by kernel_rfl) (by kernel_rfl)) (by kernel_rfl) (by kernel_rfl)
theorem reads (os:Os) {H:Type} (enc:TypeId × Value→H):∃places,DataW.whole enc Tryz.prog ((laidWorld os).forCall (fun _ _=>0) ⟨#[],#[.int .i64 0,.slice none 0 0,.slice none 0 0],[]⟩).memory Tryz.f11.params.toList Rows.raidForeignSpec.vars false (#[.int .i64 0,.slice none 0 0,.slice none 0 0]:Array Value).toList 8=some ([.lit (.int .i64 0),.nil,.nil],[],places) :=
 ⟨[],by kernel_rfl⟩
set_option maxRecDepth 100000 in
theorem lifted (os:Os) (started:os.Started) (H:Type) (enc:TypeId × Value→H) (F:Stop.Interp) :
  ReturnsInHanded {} Tryz.checked os 11 .any ((OpenSpec.ofChange Rows.raidForeignSpec).preRow enc Tryz.prog Tryz.f11 Rows.raidForeignRow.domain false Rows.raidForeignRow.laid) (((OpenSpec.ofChange Rows.raidForeignSpec).at F).post enc Tryz.prog Tryz.f11 false true false false):=by
 obtain ⟨places,hx⟩:=reads os enc
 refine returnsInHanded_of_row (C:=Tryz.checked) (s:=(OpenSpec.ofChange Rows.raidForeignSpec)) own started (by kernel_rfl) Tryz.func11
  (witness_row_at (enc:=enc) (C:=Tryz.checked) false (laidWorld os) #[.int .i64 0,.slice none 0 0,.slice none 0 0] rfl (by kernel_rfl) (by kernel_rfl) (by kernel_rfl)
   (OpenSpec.preRow_of_cond 8 hx (by kernel_rfl) (fun k hk=>by cases hk) (by kernel_rfl) (laid_met os))) ?_
 intro W base args ds gs before hval hW _ hcond hsz hL _ _
 exact contract H enc W base args ds gs before hval hW hsz hL
theorem said:Rows.RaidForeignSaid :=
 OpenClaim.holds_of_cond 11 Tryz.f11 rfl rfl rfl rfl rfl rfl rfl ⟨rfl,rfl,rfl,rfl,rfl⟩ rfl rfl rfl rfl rfl (by kernel_rfl) Tryz.func11 (by kernel_rfl)
  (of_decide_eq_true (by kernel_rfl)) (by unfold Func.isWrapper;first | (rw [if_pos (by decide +kernel)];kernel_rfl) | (rw [if_neg (by decide +kernel)];exact ⟨rfl,rfl⟩))
  (fun os started H enc _ F=>by rw [OpenClaim.pre_eq_preRow];exact lifted os started H enc F)
theorem plain (f : FuncId) (fn : Func) (hf : Tryz.pinned.checked.prog.funcNamed "ashlar/ashlarlaw08.RaidForeign" = some f) (hfn : Tryz.pinned.checked.prog.funcs[f]? = some fn) :
  false=Tryz.pinned.checked.prog.looks []∧∀(j:Nat) t,fn.params[j]?=some t→Tryz.pinned.checked.prog.wantsStandIn t=false:=by
 obtain rfl : f = 11 := Option.some.inj ((show Tryz.prog.funcNamed "ashlar/ashlarlaw08.RaidForeign" = some 11 by kernel_rfl).symm.trans hf) |>.symm
 obtain rfl:fn=Tryz.f11:=(Option.some.inj (Tryz.func11.symm.trans hfn)).symm
 refine ⟨by kernel_rfl,fun j t ht=>?_⟩
 rw [Tryz.params11] at ht
 have hm:t∈[3,60,22]:=by simpa using Array.mem_of_getElem? ht
 have hall:([3,60,22].all fun u=>!Tryz.prog.wantsStandIn u)=true:=by kernel_rfl
 exact (show Tryz.prog.wantsStandIn t=false by simpa using List.all_eq_true.1 hall t hm)
theorem card:Rows.RaidForeignCardSaid :=
 Claim7.holds_tied_plain_at .later [] _ _ _ _ said (fun _ h=>by cases h) (by kernel_rfl) (fun _ h=>by cases h) raidForeign_row_tie rfl ⟨rfl,rfl⟩ (by kernel_rfl) rfl plain (by kernel_rfl)
end Go.Proofs.YthhldceidmphfaaGreatDoor.U.raidForeign
