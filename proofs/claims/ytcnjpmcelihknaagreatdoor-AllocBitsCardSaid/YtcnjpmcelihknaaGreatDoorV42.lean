/-
  What the statement's proof rests on, part 42.
  Conditions: each theorem's own.
-/
import Derived.Test.YtcnjpmcelihknaaGreatDoorV41
import Derived.Deep.AppendSrc
import Derived.Deep.AppendLies
import Derived.Deep.MidRow
open Go.Proofs.YtcnjpmcelihknaaGreatDoor.S renaming Sup → SuP
namespace Go.Proofs.YtcnjpmcelihknaaGreatDoor.Sh
open Go.RowKit Go.Maps
end Go.Proofs.YtcnjpmcelihknaaGreatDoor.Sh
namespace Go.Proofs.YtcnjpmcelihknaaGreatDoor.U
open Go.RowKit Go.Maps
section
variable {N:Nat} {w w':World} {B q:Nat} {G G' P P':Nat->Prop} {may:Nat->List Sh.Bs} {g off c:Nat->Nat}
end
end Go.Proofs.YtcnjpmcelihknaaGreatDoor.U
namespace Go.Proofs.YtcnjpmcelihknaaGreatDoor.Sh
open Go.ChangeShapes Go.WideShapes Go.ChangeAt Go.RowKit Go.Maps
section
variable {H:Type} {enc:TypeId × Value->H} {W:World}
theorem cellsInt:Tryz.prog.cellsOf 3=1:=by kernel_rfl
def I64 (z:Int):Prop:=-9223372036854775808<=z/\z<=9223372036854775807
end
end Go.Proofs.YtcnjpmcelihknaaGreatDoor.Sh
namespace Go.Proofs.YtcnjpmcelihknaaGreatDoor.U
open Go.RowKit Go.Maps
section
variable {A:Ar} {S S':Sh.Sf} {o:Nat->Int} {g g':Gh} {D U D' U':Set0} {may:Nat->List Sh.Bs} {kd:Bool} {y:Int} {x X:Sh.Bs} {t e:Stt} {m:Nat}
theorem me_inj {M a b:Nat} (h3:3<=M) (h1:stOf M a=stOf M b) (h2:meOf M a=meOf M b):a=b:=by
 obtain ⟨a1,a2,a3,_⟩:=me_ok (M:=M) (m:=a) h3
 obtain ⟨b1,b2,b3,_⟩:=me_ok (M:=M) (m:=b) h3
 rw [h1,h2,b3] at a3
 have e1:b%(M-1)=a%(M-1):=a3
 have e2:a / (M-1)=b / (M-1):=h1
 have:=Nat.div_add_mod a (M-1)
 have:=Nat.div_add_mod b (M-1)
 rw [e1,<- e2] at this
 omega
end
theorem isMap_set {w:World} {k:TypeId} {b:Nat} {D:Set0} (h:SetIs w k b D):IsMap D:=by
 obtain ⟨es,_,_,_,_,rfl⟩:=h
 exact ⟨_,rfl⟩
section
variable {A:Ar} {S S':Sh.Sf} {o:Nat->Int} {g g':Gh} {D U D' U':Set0} {may:Nat->List Sh.Bs} {kd:Bool} {y:Int} {x X:Sh.Bs} {t e:Stt} {m:Nat}
/-! ### a crash -/
end
section
variable {S:Sh.Sf} {o:Nat->Int} {D U D' U':Set0} {y:Int} {x X:Sh.Bs} {t e:Stt} {m:Nat}
theorem waits_same {S T:Sh.Sf} (h:Same S T) (hL:∀x∈S.disks,x.waits.length<=m):∀x∈T.disks,x.waits.length<=m:=by rw [h.disks];exact hL
theorem waits_more {T:Sh.Sf} {a b:Nat} (hab:a<=b) (hL:∀x∈T.disks,x.waits.length<=a):∀x∈T.disks,x.waits.length<=b:=fun x hx=>Nat.le_trans (hL x hx) hab
theorem RdT.waits {s:SuP} {M k st me:Nat} (h:RdT s M k st me S o y X t) (hL:∀x∈S.disks,x.waits.length<=m):∀x∈t.S.disks,x.waits.length<=m+3:=by
 have hs:Same S (shouldR s M k st me S).1:=((Same.refl S).looked _).trans (tog_same M)
 cases h with
 | plain _=>exact waits_more (Nat.le_add_right _ _) (waits_same ((Same.refl S).looked _) hL)
 | lack _ _=>exact waits_more (Nat.le_add_right _ _) (waits_same hs hL)
 | dead _ _=>exact waits_more (Nat.le_add_right _ _) (waits_same hs hL)
 | bad z x S2 _ _ hD _=>exact hD.waits (waits_same hs hL)
 | mend x S2 _ _ hD=>exact hD.waits (waits_same hs hL)
theorem RdR.waits {LL M St:Nat} {s:SuP} {n:Int} (h:RdR LL s M St n S o y X t) (hL:∀x∈S.disks,x.waits.length<=m):∀x∈t.S.disks,x.waits.length<=m+3:=by
 cases h with
 | refused _=>exact waits_more (Nat.le_add_right _ _) hL
 | there m' y X t _ _ _ hT=>exact hT.waits hL
theorem WrT.waits {nn LL M k st a pl b:Nat} {s:SuP} (hn:nn<=17) (h8:LL<=8) (h:WrT nn LL s M k st a pl b x D U t y e D' U') (hL:∀x∈t.S.disks,x.waits.length<=m):∀x∈e.S.disks,x.waits.length<=m+500:=by
 cases h with
 | io=>exact waits_more (by omega) hL
 | data y z S2 _ _ hw=>exact waits_more (by omega) (hw.waits hL)
 | par y e D' U' _ _ hw =>
  cases hw with
  | lack=>exact waits_more (by omega) (waits_same (tog_same M) hL)
  | done y z S2 _ hw=>exact waits_more (by omega) (hw.waits (waits_same (tog_same M) hL))
 | both y e D' U' _ _ hw =>
  cases hw with
  | lack=>exact waits_more (by omega) (waits_same partR_same hL)
  | recd y a1 D1 U1 _ hr _ =>
   have:=hr.waits hn h8 (m:=m) (waits_same (T:=(partR s M k st a b t.S).1) partR_same hL)
   exact waits_more (by omega) this
  | data y a1 D1 U1 z S2 _ hr hw _ =>
   have:=hw.waits (hr.waits hn h8 (m:=m) (waits_same (T:=(partR s M k st a b t.S).1) partR_same hL))
   exact waits_more (by omega) this
  | both y a1 D1 U1 z z3 S2 S3 _ hr hw hw2 =>
   have:=hw2.waits (hw.waits (hr.waits hn h8 (m:=m) (waits_same (T:=(partR s M k st a b t.S).1) partR_same hL)))
   exact waits_more (by omega) this
theorem WrR.waits {nn LL M St:Nat} {s:SuP} {n:Int} (hn:nn<=17) (h8:LL<=8) (h:WrR nn LL s M St n x D U S o y e D' U') (hL:∀x∈S.disks,x.waits.length<=m):∀x∈e.S.disks,x.waits.length<=m+1000:=by
 cases h with
 | refused=>exact waits_more (by omega) hL
 | flush _ _ _ _ _ _ _ _ _ hf=>exact waits_more (by omega) (hf.waits hn h8 hL)
 | after _ t _ _ _ _ _ _ _ _ _ _ hf hw =>
  have:=WrT.waits hn h8 hw (hf.waits hn h8 hL)
  exact waits_more (by omega) this
 | first _ _ _ _ _ _ _ _ _ hw=>exact waits_more (by omega) (WrT.waits (t:=⟨S,o⟩) hn h8 hw hL)
theorem tidy_puti (h:Tidy D) (k:Nat):Tidy (D.put (.int .i64 (k:Int)) one0)/\Maps.size (D.put (.int .i64 (k:Int)) one0)<=Maps.size D+1 :=
 ⟨h.put (show WideAt.IsKeyLit (.int .i64 (k:Int)) from trivial) _,by rw [Maps.size_put h];split<;>omega⟩
theorem FlR.opensOf {n L:Nat} {b:Stt} (h:FlR n L D U S y b D' U'):D'=D\/D'=noSet:=by
 cases h with
 | first o' h=>exact .inl rfl
 | slots o1 y b h1 h2 h3 h4=>exact .inl rfl
 | again o1 o' b h1 h2 h3 h4=>exact .inl rfl
 | none o' h1 h2=>exact .inr rfl
 | all o1 o' b h1 h2 h3 h4=>exact .inr rfl
theorem tidy_of {D1:Set0} (h:D1=D\/D1=noSet) (hD:Tidy D/\Maps.size D<=m):Tidy D1/\Maps.size D1<=m:=by
 rcases h with rfl | rfl
 ·exact hD
 ·exact ⟨tidy_empty,Nat.zero_le _⟩
theorem RecR.opensOf {n L d:Nat} {l hd:Sh.Bs} {a b:Stt} (h:RecR n L d l hd a D U y b D' U'):D'=D\/D'=noSet:=by
 rcases h with ⟨_,rfl,_⟩ | ⟨_,y1,a1,D1,U1,h1,⟨_,_,_,rfl,_⟩ | ⟨_,rfl,_⟩⟩
 ·exact .inl rfl
 ·exact h1.opensOf
 ·exact h1.opensOf
theorem tidy_more {D:Set0} {a b:Nat} (hab:a<=b) (h:Tidy D/\Maps.size D<=a):Tidy D/\Maps.size D<=b:=⟨h.1,Nat.le_trans h.2 hab⟩
theorem tidy_put1 (k:Nat) (h:Tidy D/\Maps.size D<=m):Tidy (D.put (.int .i64 (k:Int)) one0)/\Maps.size (D.put (.int .i64 (k:Int)) one0)<=m+1:=by
 obtain ⟨h1,h2⟩:=tidy_puti h.1 k
 exact ⟨h1,Nat.le_trans h2 (Nat.succ_le_succ h.2)⟩
theorem WrT.opensOf {nn LL M k st a pl b:Nat} {s:SuP} (h:WrT nn LL s M k st a pl b x D U t y e D' U') (hD:Tidy D/\Maps.size D<=m):Tidy D'/\Maps.size D'<=m+2:=by
 cases h with
 | io=>exact tidy_more (by omega) hD
 | data=>first
  | exact tidy_more (by omega) (tidy_put1 st hD)
  | exact tidy_more (by omega) hD
 | par y e D' U' _ _ hw=>cases hw with
  | lack=>exact tidy_more (by omega) hD
  | done=>first
   | exact tidy_more (by omega) (tidy_put1 st hD)
   | exact tidy_more (by omega) hD
 | both y e D' U' _ _ hw=>cases hw with
  | lack=>exact tidy_more (by omega) hD
  | recd _ _ _ _ _ hr=>exact tidy_more (by omega) (tidy_of hr.opensOf hD)
  | data _ _ _ _ _ _ _ hr=>exact tidy_more (by omega) (tidy_put1 st (tidy_of hr.opensOf hD))
  | both _ _ _ _ _ _ _ _ _ hr=>exact tidy_put1 st (tidy_put1 st (tidy_of hr.opensOf hD))
theorem WrR.opensOf {nn LL M St:Nat} {s:SuP} {n:Int} (h:WrR nn LL s M St n x D U S o y e D' U') (hD:Tidy D/\Maps.size D<=m):Tidy D'/\Maps.size D'<=m+2:=by
 cases h with
 | refused=>exact tidy_more (by omega) hD
 | flush _ _ _ _ _ _ _ _ _ hf=>exact tidy_more (by omega) (tidy_of hf.opensOf hD)
 | after _ _ _ _ _ _ _ _ _ _ _ _ hf hw=>exact hw.opensOf (tidy_of hf.opensOf hD)
 | first _ _ _ _ _ _ _ _ _ hw=>exact hw.opensOf hD
structure Few (S:Sh.Sf) (D U:Set0) (m:Nat):Prop where
 waits:∀x∈S.disks,x.waits.length<=m
 opens:Tidy D/\Maps.size D<=m
 used:Maps.size U<=m
theorem Few.write {nn LL M St:Nat} {s:SuP} {n:Int} {w:World} {b:Nat} (h:Few S D U m) (hs:SetIs w 224 b U) (hn:nn<=17) (h8:LL<=8) (hW:WrR nn LL s M St n x D U S o y e D' U'):Few e.S D' U' (m+1000) :=
 ⟨hW.waits hn h8 h.waits,tidy_more (by omega) (hW.opensOf h.opens),by have:=hW.usedOf.size hs;have:=h.used;omega⟩
theorem Few.flush {n L:Nat} (h:Few S D U m) (hn:n<=17) (h8:L<=8) (hF:FlR n L D U S y e D' U'):Few e.S D' U' (m+1000) :=
 ⟨waits_more (by omega) (hF.waits hn h8 h.waits),tidy_more (by omega) (tidy_of hF.opensOf h.opens),by
  have:=h.used
  rcases hF.usedOf with rfl | rfl
  ·omega
  ·exact Nat.zero_le _⟩
theorem Few.read {LL M St:Nat} {s:SuP} {n:Int} (h:Few S D U m) (hR:RdR LL s M St n S o y X t):Few t.S D U (m+1000) :=
 ⟨waits_more (by omega) (hR.waits h.waits),tidy_more (by omega) h.opens,Nat.le_trans h.used (by omega)⟩
end
section
variable {J:Vk} {w w':World} {r q cap tq:Nat} {A:Ar} {S S':Sh.Sf} {o o':Nat->Int} {D U D' U':Set0} {F F':Nat->Prop} {kd:Bool} {may:Nat->List Sh.Bs} {m:Nat} {g off c:Nat->Nat}
theorem fits_ci {g:Gh} (h:Ci A S o g) (hs:Said A):Fits A.n A.L A.s A.M A.St S:=by
 have hr:=hs.right 0 h.n1
 have hf:=hs.fit
 obtain ⟨r1,r2,r3,r4,r5,r6,r7,r8⟩:=Go.Proofs.YtcnjpmcelihknaaGreatDoor.S.right_parts hr
 have hm:(saidOf A.s 0).most<=(saidOf A.s 0).str:=by unfold Go.Proofs.YtcnjpmcelihknaaGreatDoor.S.Sup.most;split<;>omega
 have e1:(saidOf A.s 0).str=A.s.str:=rfl
 have e2:(saidOf A.s 0).mark=A.s.mark:=rfl
 have e3:(saidOf A.s 0).spare=A.s.spare:=rfl
 have h1:=hs.mem
 have h2:=hs.str
 have h3:=hs.logs
 have:=h.ar.m3
 have:=h.ar.l1
 have:=h.ar.l8
 have:=h.ar.s2
 have:=hs.m16
 have:=hs.st1
 unfold Fit at hf
 have e4:(saidOf A.s 0).mem=A.s.mem:=rfl
 exact ⟨h1,h2,h3,by omega,by omega,by omega,by omega,by omega,by omega,by omega,by omega,⟨by omega,by omega⟩,h.len,h.fit⟩
end
end Go.Proofs.YtcnjpmcelihknaaGreatDoor.U
