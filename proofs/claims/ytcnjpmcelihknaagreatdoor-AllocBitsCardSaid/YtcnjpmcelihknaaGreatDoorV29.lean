/-
  What the statement's proof rests on, part 29.
  Conditions: each theorem's own.
-/
import Derived.Test.YtcnjpmcelihknaaGreatDoorV26
import Derived.Test.YtcnjpmcelihknaaGreatDoorV17
import Derived.Test.YtcnjpmcelihknaaGreatDoorV28
open Go.Lib (hid)
open Go.Proofs.YtcnjpmcelihknaaGreatDoor.S renaming Sup → SuP
namespace Go.Proofs.YtcnjpmcelihknaaGreatDoor.Kj
open Go.RowKit Go.Maps
open Go.Proofs.YtcnjpmcelihknaaGreatDoor.U (Pad splice_pad setL setL_eq setCells_heapP only_setCells only_row_below' Fresh)
theorem isSeq_any (n:Int) (w:World):Calls Tryz.prog 57 #[.int .i64 n] w fun e w'=>e=.returned (.bool (decide (1<=n/\n<=4611686018427387904)))/\w=w':=by
 by_cases h1:1<=n
 ·by_cases h2:n<=4611686018427387904
  ·rw [decide_eq_true (And.intro h1 h2)]
   have q1:decide (n≥1)=true:=by simpa using h1
   have q2:decide (n<=4611686018427387904)=true:=by simpa using h2
   clear h1 h2
   go_enter Tryz.func57,Tryz.ntmps57
   go_wp2
   go_ret
   exact ⟨rfl,rfl⟩
  ·rw [decide_eq_false (fun e=>h2 e.2)]
   have q1:decide (n≥1)=true:=by simpa using h1
   have q2:decide (n<=4611686018427387904)=false:=by simpa using h2
   clear h1 h2
   go_enter Tryz.func57,Tryz.ntmps57
   go_wp2
   go_ret
   exact ⟨rfl,rfl⟩
 ·rw [decide_eq_false (fun e=>h1 e.1)]
  have q1:decide (n≥1)=false:=by simpa using h1
  clear h1
  go_enter Tryz.func57,Tryz.ntmps57
  go_wp2
  go_ret
  exact ⟨rfl,rfl⟩
theorem isNumber_any (n:Int) (w:World):Calls Tryz.prog 58 #[.int .i64 n] w fun e w'=>e=.returned (.bool (decide (0<=n/\n<=65535)))/\w=w':=by
 by_cases h1:0<=n
 ·by_cases h2:n<=65535
  ·rw [decide_eq_true (And.intro h1 h2)]
   have q1:decide (n≥0)=true:=by simpa using h1
   have q2:decide (n<=65535)=true:=by simpa using h2
   clear h1 h2
   go_enter Tryz.func58,Tryz.ntmps58
   go_wp2
   go_ret
   exact ⟨rfl,rfl⟩
  ·rw [decide_eq_false (fun e=>h2 e.2)]
   have q1:decide (n≥0)=true:=by simpa using h1
   have q2:decide (n<=65535)=false:=by simpa using h2
   clear h1 h2
   go_enter Tryz.func58,Tryz.ntmps58
   go_wp2
   go_ret
   exact ⟨rfl,rfl⟩
 ·rw [decide_eq_false (fun e=>h1 e.1)]
  have q1:decide (n≥0)=false:=by simpa using h1
  clear h1
  go_enter Tryz.func58,Tryz.ntmps58
  go_wp2
  go_ret
  exact ⟨rfl,rfl⟩
theorem zeros_pad {w:World} {base g:Nat} (h:w.ownsRow base 5 1 (.slice (some ⟨g,0,none⟩) 128 128) 128 (madeCells (Value.int .u8 0).cells (128*1)).toList):Pad w g []:=by
 have:=Go.Proofs.YtcnjpmcelihknaaGreatDoor.S.own_whole (Go.Proofs.YtcnjpmcelihknaaGreatDoor.S.zeros_own h)
 exact this
theorem make128 {ops:Array Oper} {rest:List Oper} {o:Oper} {a:Act} {Q:Exit->Act->World->Prop} {w:World} (hgd:o.guard=none) (l c:Operand) (hop:o.op=Op.makeSlice 24 l c)
  (hl:a.eval l=.int .i64 128) (hc:a.eval c=.int .i64 128)
  (hK:∀w',Pad w' w.heap.size []->Below w.heap.size w w'->wpList Tryz.prog ops Q rest (a.put o.dst (.slice (some ⟨w.heap.size,0,none⟩) 128 128)) w'):wpList Tryz.prog ops Q (o :: rest) a w:=by
 obtain ⟨i,hi,hz,hsz,hby⟩:=info_parts info_u8
 refine wpList_plain hgd fun K hK'=>?_
 obtain ⟨w',hrun,r1,r2⟩:=run_make_full (P:=Tryz.prog) w w.heap.size 24 5 i _ 1 Tryz.underlying24 hi hz hsz .i64 .i64 128 (by rw [hby];omega) (by unfold maxLen;omega) (Nat.le_refl _)
 have hrun':(Instr.makeSlice 24 (.int .i64 128) (.int .i64 128)).run Tryz.prog w=.ok (.slice (some ⟨w.heap.size,0,none⟩) 128 128) w':=hrun
 unfold Oper.wp
 simp only [execOp,hop,hl,hc,Sem.run_bind,hrun',Result.andThen_ok]
 exact hK' _ _ (hK _ (zeros_pad r1) ((Below.refl _ w).grown r2 (Nat.le_refl _) (fun _ h=>by cases h)))
set_option maxRecDepth 20000 in
set_option maxHeartbeats 1000000 in
theorem seal_ok {s:ByteArray} {mg:List Nat} (hM:Magic s mg) (sq:Nat) (hsq:sq<2 ^ 63) (A:Option Addr) (n c:Nat) (ns:List Nat) (w:World) (hn:n<=26) (hns:∀x∈ns,x<4294967296) (hr:Reads w w.heap.size A n (numsV ns)) (hT:Tabs w) :
  Calls Tryz.prog 59 #[.string s,.int .i64 (sq:Int),.slice A n c] w fun e w'=>∃v,e=.returned v/\Fresh w (sealL mg sq ns) v w':=by
 have hlen:ns.length=n:=by have:=hr.1;simpa [numsV] using this
 obtain ⟨hm4,hms,hmr⟩:=hM
 have HM:=hid hmr
 have HL:Hid (∀k,k<=n->(sealTo mg sq ns k).length=12+4*k):=hid fun k hk=>sealTo_length hm4 sq ns (by omega)
 have HS:Hid (∀k,(h:k<n)->sealTo mg sq ns (k+1)=sealTo mg sq ns k++putL (ns.getD k 0) 4):=hid fun k hk=>by rw [sealTo_succ mg sq ns (by omega)];simp [List.getD,show k<ns.length by omega]
 have H0:Hid (mg++putL sq 8=sealTo mg sq ns 0):=hid (by simp [sealTo])
 have HB:Hid (sealTo mg sq ns n++List.replicate (124-(12+4*n)) 0=sealB mg sq ns):=hid (by unfold sealB;rw [hlen])
 have HBL:=hid (sealB_length hm4 sq (ns:=ns) (by omega))
 have HBS:=hid (sealB_small hms sq ns)
 have HSM:=hid (sealB_sum hms sq ns)
 have HFL:=hid (sealL_length hm4 sq (ns:=ns) (by omega))
 have HF:Hid (sealB mg sq ns++putL (Nums.sum 0 (sealB mg sq ns)) 4=sealL mg sq ns):=hid rfl
 have HX:Hid (∀k,k<n->ns.getD k 0<4294967296/\∃ad,A=some ad/\ad.block<w.heap.size/\w.cell? (ad.add k)=some (.int .i64 ((ns.getD k 0:Nat):Int))):=hid fun k hk=>by
  have hk2:k<ns.length:=by omega
  obtain ⟨ad,u,h1,h2,h3,h4⟩:=hr.at_ hk
  simp only [numsV,List.getElem?_map,List.getElem?_eq_getElem hk2,Option.map_some,Option.some.injEq] at h3
  have e:ns.getD k 0=ns[k]:=by simp [List.getD,hk2]
  rw [e]
  exact ⟨hns _ (List.getElem_mem hk2),ad,h1,h2,by rw [h4,<- h3]⟩
 have HM4:=hid hm4
 have HT:=hid (fun w' (h:Below w.heap.size w w')=>hT.below hT.size h)
 have hu:IntKind.u64.wrap (sq:Int)=sq:=by rw [IntKind.wrap_u64];omega
 have HP8:=hid (put_ok sq 8 · (by decide) (by decide) (by show sq<18446744073709551616;omega))
 clear hr hT hms hmr hns hm4 hlen hsq
 go_enter Tryz.func59,Tryz.ntmps59
 go_wp2_with (first
  | (at_make;refine make128 rfl _ _ rfl rfl rfl ?_;intro w1 p1 b1)
  | (refine wp_copy rfl _ _ _ _ rfl rfl rfl (HM.out _ _ _ p1) ?_))
 obtain ⟨p2,o2⟩:=pad_set (c:=mg) p1 rfl (by rw [HM4.out];decide)
 have hb2:=only_row_below' b1 o2 (Nat.le_refl _) (Nat.le_refl _)
 rw [List.nil_append] at p2
 generalize w1.setCells w.heap.size 0 (bts mg)=w2 at *
 have HPB:=hid (And.intro p2 hb2)
 clear p1 b1 o2 p2 hb2 HM
 refine (HP8.out w2).mono ?_
 rintro e w3 ⟨v,rfl,hown,hb3⟩
 rw [putL_length] at hown
 have p3:=HPB.out.1.same (hb3.block _ HPB.out.1.lt)
 have HB3:=hid (HPB.out.2.trans (hb3.mono HPB.out.2.size))
 have HC3:=hid (run_copy_pad 124 rfl p3 HM4.out (c:=putL sq 8) (by rw [putL_length];decide) (by rw [putL_length];exact hown) (by rw [putL_length];decide))
 rw [putL_length] at HC3
 obtain ⟨p4,o4⟩:=pad_set (c:=putL sq 8) p3 HM4.out (by rw [putL_length];decide)
 rw [H0.out] at p4
 have HP4:=hid p4
 have HB4:=hid (only_row_below' HB3.out o4 (Nat.le_refl _) (Nat.le_refl _))
 clear hb3 hown HPB HP8 p3 p4 o4
 go_wp2_with (refine wp_copy rfl _ _ _ _ rfl rfl rfl (HC3.out _) ?_)
 generalize w3.setCells w.heap.size 4 (bts (putL sq 8))=w4 at *
 clear HC3 HB3
 have HG:=hid HP4.out.lt
 go_loopw [8,34] (fun s8 s34 wr=>∃k:Nat,k<=n/\s34=.int .i64 k/\s8=.int .i64 ((12+4*k:Nat):Int)/\Pad wr w.heap.size (sealTo mg sq ns k)/\Below w.heap.size w wr) (fun _ i _=>n-(intOf i).toNat)
 case atStart=>exact ⟨0,Nat.zero_le _,rfl,rfl,HP4.out,HB4.out⟩
 case round =>
  obtain ⟨k,hk,rfl,rfl,hpr,hbr⟩:=hrel
  have HPR:=hid (And.intro hpr hbr)
  clear hpr hbr
  by_cases hlt:k<n
  ·obtain ⟨hx,ad,rfl,hab,hac⟩:=HX.out k hlt
   have hcr:=(HPR.out.2.cell (p:=ad.add k) (by rw [block_of_add];exact hab)).trans hac
   have HPX:=hid (put_ok (ns.getD k 0) 4 · (by decide) (by decide) (by show ns.getD k 0<4294967296;exact hx))
   have hu4:IntKind.u64.wrap ((ns.getD k 0:Nat):Int)=((ns.getD k 0:Nat):Int):=by rw [IntKind.wrap_u64];omega
   have HSK:=hid (HS.out k hlt)
   have HLK:=hid (HL.out k hk)
   have hq112:12+4*k<=124:=by omega
   have HQ4:Hid (12+4*(k+1)=12+4*k+4):=hid (by omega)
   clear hab hac
   generalize ns.getD k 0=x at *
   generalize 12+4*k=q at *
   go_wp2_with fail
   refine (HPX.out wr).mono ?_
   rintro e w5 ⟨v5,rfl,hown,hb5⟩
   rw [putL_length] at hown
   have p5:=HPR.out.1.same (hb5.block _ HPR.out.1.lt)
   have HB5:=hid (HPR.out.2.trans (hb5.mono HPR.out.2.size))
   have HC5:=hid (run_copy_pad (128-q) (by omega) p5 HLK.out (c:=putL x 4) (by rw [putL_length];omega) (by rw [putL_length];exact hown) (by rw [putL_length];decide))
   rw [putL_length] at HC5
   obtain ⟨p6,o6⟩:=pad_set (c:=putL x 4) p5 HLK.out (by rw [putL_length];omega)
   rw [<- HSK.out] at p6
   have HP6:=hid p6
   have HB6:=hid (only_row_below' HB5.out o6 (Nat.le_refl _) (Nat.le_refl _))
   clear hb5 hown p5 p6 o6 hcr hu4 hx
   go_wp2_with (refine wp_copy rfl _ _ _ _ rfl rfl rfl (HC5.out _) ?_)
   generalize w5.setCells w.heap.size q (bts (putL x 4))=w6 at *
   clear HC5 HB5
   go_roundw
   case rel=>exact ⟨k+1,by omega,by go_num,by rw [HQ4.out];go_num,HP6.out,HB6.out⟩
   case measure=>simp [intOf];omega
  ·obtain rfl:k=n:=by omega
   have pb:=HPR.out.1.more (124-(12+4*k)) (by rw [HL.out k (Nat.le_refl _)];omega)
   rw [HB.out] at pb
   have hrd:=pb.reads
   rw [HBL.out] at hrd
   have HPB:=hid (And.intro pb hrd)
   have HCRC:=hid (fun c=>crc_any (some ⟨w.heap.size,0,none⟩) 124 c wr.heap.size (sealB mg sq ns) 0 wr (by decide) HBS.out hrd (by decide) (HT.out wr HPR.out.2))
   have hz:=HSM.out
   have HPZ:=hid (put_ok (Nums.sum 0 (sealB mg sq ns)) 4 · (by decide) (by decide) hz)
   have hu4:IntKind.u64.wrap ((Nums.sum 0 (sealB mg sq ns):Nat):Int)=((Nums.sum 0 (sealB mg sq ns):Nat):Int):=by rw [IntKind.wrap_u64];omega
   have HSS:Hid (∃z,Nums.sum 0 (sealB mg sq ns)=z):=hid ⟨_,rfl⟩
   obtain ⟨z,hzz⟩:=HSS.out
   rw [hzz] at HCRC HPZ hu4 hz HF
   have HZZ:=hid hzz
   clear hzz pb hrd hk hlt HSS
   go_wp2_with fail
   refine (HCRC.out _).mono ?_
   rintro e w5 ⟨rfl,dn,rfl⟩
   go_wp2_with fail
   refine (HPZ.out _).mono ?_
   rintro e w6 ⟨v6,rfl,hown,hb6⟩
   rw [putL_length] at hown
   have hb6':Below wr.heap.size wr w6:=(⟨rfl,rfl,rfl,Nat.le_refl _,fun _ _=>rfl⟩:Below wr.heap.size wr (wr.drewN dn)).trans hb6
   have p6:=HPB.out.1.same (hb6'.block _ HPB.out.1.lt)
   have HB6:=hid (HPR.out.2.trans (hb6'.mono HPR.out.2.size))
   have HC6:=hid (run_copy_pad 4 rfl p6 HBL.out (c:=putL z 4) (by rw [putL_length];decide) (by rw [putL_length];exact hown) (by rw [putL_length];decide))
   rw [putL_length] at HC6
   obtain ⟨p7,o7⟩:=pad_set (c:=putL z 4) p6 HBL.out (by rw [putL_length];decide)
   rw [HF.out] at p7
   have HP7:=hid (p7.full HFL.out)
   have HB7:=hid (only_row_below' HB6.out o7 (Nat.le_refl _) (Nat.le_refl _))
   clear hb6 hb6' hown p6 p7 o7 HPR HPB HCRC HPZ
   go_wp2_with (refine wp_copy rfl _ _ _ _ rfl rfl rfl (HC6.out _) ?_)
   generalize w6.setCells w.heap.size 124 (bts (putL z 4))=w7 at *
   go_ret
   exact ⟨_,rfl,_,rfl,Nat.le_refl _,HP7.out,HB7.out⟩
open Go.Proofs.YtcnjpmcelihknaaGreatDoor.U (Pad Fresh)
def seqB (n:Int):Bool:=decide (1<=n/\n<=4611686018427387904)
def numB (n:Int):Bool:=decide (0<=n/\n<=65535)
def Nil1 (w:World) (e:Ending) (w':World):Prop:=e=.returned (.tuple #[.slice none 0 0,.int .i64 1])/\Below w.heap.size w w'
def Sealed (w:World) (l:List Nat) (e:Ending) (w':World):Prop:=∃v,e=.returned (.tuple #[v,.int .i64 0])/\Fresh w l v w'
theorem reads_one {w:World} {t:TypeId} (x:Nat):Reads (w.alloc (.cells #[.int .i64 (x:Int)] t)) (w.alloc (.cells #[.int .i64 (x:Int)] t)).heap.size (some ⟨w.heap.size,0,none⟩) 1 (numsV [x]) :=
 ⟨rfl,fun _=>⟨_,rfl,by simp,fun j u hu=>by
  have hj:j=0:=by
   have:=(List.getElem?_eq_some_iff.1 hu).1
   simp [numsV] at this;exact this
  subst hj
  simp only [numsV,List.map_cons,List.map_nil,List.getElem?_cons_zero,Option.some.injEq] at hu
  rw [<- hu]
  exact cell_of_row _ _ 0 _ _ _ (heap_alloc_new w _)⟩⟩
theorem Fresh.from_ {w w1 w':World} {l:List Nat} {v:Value} (hb:Below w.heap.size w w1) (h:Fresh w1 l v w'):Fresh w l v w':=by
 obtain ⟨g,h1,h2,h3,h4⟩:=h
 exact ⟨g,h1,Nat.le_trans hb.size h2,h3,hb.trans (h4.mono hb.size)⟩
theorem head_no (sq a:Int) (w:World) (h:seqB sq=false\/numB a=false):Calls Tryz.prog 12 #[.int .i64 sq,.int .i64 a] w (Nil1 w):=by
 have HS:=hid (isSeq_any sq w)
 have HN:=hid (isNumber_any a w)
 change Hid (Calls _ _ _ _ fun e w'=>e=.returned (.bool (seqB sq))/\w=w') at HS
 change Hid (Calls _ _ _ _ fun e w'=>e=.returned (.bool (numB a))/\w=w') at HN
 unfold Nil1
 cases hs:seqB sq with
 | false =>
  rw [hs] at HS
  clear h hs HN
  go_enter Tryz.func12,Tryz.ntmps12
  go_wp2_with fail
  refine HS.out.mono ?_
  rintro e w' ⟨rfl,rfl⟩
  go_wp2
  go_ret2
  exact ⟨rfl,Below.refl _ _⟩
 | true =>
  have hn:numB a=false:=h.resolve_left (by rw [hs];decide)
  rw [hs] at HS
  rw [hn] at HN
  clear h hs hn
  go_enter Tryz.func12,Tryz.ntmps12
  go_wp2_with fail
  refine HS.out.mono ?_
  rintro e w' ⟨rfl,rfl⟩
  go_wp2_with fail
  refine HN.out.mono ?_
  rintro e w' ⟨rfl,rfl⟩
  go_wp2
  go_ret2
  exact ⟨rfl,Below.refl _ _⟩
theorem head_ok (sq a:Nat) (w:World) (h1:1<=sq) (h2:sq<=4611686018427387904) (h3:a<=65535) (hT:Tabs w):Calls Tryz.prog 12 #[.int .i64 (sq:Int),.int .i64 (a:Int)] w (Sealed w (sealL headM sq [a])):=by
 have HS:=hid (isSeq_any (sq:Int) w)
 have HN:=hid (isNumber_any (a:Int) w)
 rw [decide_eq_true (by omega)] at HS HN
 have hb0:Below w.heap.size w (w.alloc (.cells #[.int .i64 (a:Int)] 3)):=(Below.refl _ _).alloc (Nat.le_refl _) _
 have HQ:=hid (fun c=>seal_ok magic_head sq (by omega) (some ⟨w.heap.size,0,none⟩) 1 c [a] (w.alloc (.cells #[.int .i64 (a:Int)] 3)) (by decide) (fun x hx=>by rw [List.mem_singleton.1 hx];omega) (reads_one a) (hT.below hT.size hb0))
 have HB0:=hid hb0
 unfold Sealed
 clear hT h1 h2 h3 hb0
 go_enter Tryz.func12,Tryz.ntmps12
 go_wp2_with fail
 refine HS.out.mono ?_
 rintro e w' ⟨rfl,rfl⟩
 go_wp2_with fail
 refine HN.out.mono ?_
 rintro e w' ⟨rfl,rfl⟩
 go_wp2_with fail
 refine (HQ.out _).mono ?_
 rintro e w' ⟨v,rfl,hf⟩
 have HF:=hid (Fresh.from_ HB0.out hf)
 clear hf
 go_wp2
 go_ret2
 exact ⟨v,rfl,HF.out⟩
open Go.Proofs.YtcnjpmcelihknaaGreatDoor.U (Pad Fresh)
theorem info_i64:(Tryz.prog.info? 3).map (fun i=>(i.zero,i.size,i.bytes))=some (some (.int .i64 0),1,8):=by kernel_rfl
def numAt (l:List Nat) (i:Nat):Nat:=getN (cutAt l (12+4*i) 4)
def unsTo (l:List Nat) (k:Nat):List Nat:=(List.range k).map (numAt l)
def unsSeq (l:List Nat):Int:=wrap64 ((getN (cutAt l 4 8):Nat):Int)
theorem numAt_lt {l:List Nat} (hl:Small l) (i:Nat):numAt l i<4294967296:=cutAt_lt hl _ 4
theorem unsTo_succ (l:List Nat) (k:Nat):unsTo l (k+1)=unsTo l k++[numAt l k]:=by simp [unsTo,List.range_succ]
set_option maxRecDepth 20000 in
theorem unseal_any (A:Option Addr) (c:Nat) (l:List Nat) (w:World) (hl:Small l) (hr:Reads w w.heap.size A 128 (bts l)) :
  Calls Tryz.prog 65 #[.slice A 128 c] w fun e w'=>∃v,e=.returned (.tuple #[.int .i64 (unsSeq l),v])/\w'.ownsRow w.heap.size 3 1 v 28 (numsV (unsTo l 28))/\Below w.heap.size w w':=by
 obtain ⟨i0,hi,hz0,hz1,hz2⟩:=info_parts info_i64
 have HR:=hid (fun (w':World) (h:Below w.heap.size w w') (k:Nat) (hk:k<28)=>get_ok A 128 c w.heap.size l (12+4*k) 4 w' (by decide) (by decide) hl (hr.below h) (by decide) (by omega))
 have H8:=hid (get_ok A 128 c w.heap.size l 4 8 w (by decide) (by decide) hl hr (by decide) (by decide))
 have HL:=hid (fun k=>numAt_lt hl k)
 have HS:=hid (unsTo_succ l)
 unfold Told at HR H8
 change Hid (∀(w':World) (h:Below w.heap.size w w') (k:Nat) (hk:k<28),Calls _ _ _ w' fun e w''=>e=.returned (.tuple #[.int .u64 ((numAt l k:Nat):Int),.int .i64 0])/\w'=w'') at HR
 have HU:Hid (wrap64 ((getN (cutAt l 4 8):Nat):Int)=unsSeq l):=hid rfl
 generalize getN (cutAt l 4 8)=z at *
 clear hr hl
 go_enter Tryz.func65,Tryz.ntmps65
 go_wp2_with fail
 refine H8.out.mono ?_
 rintro e w' ⟨rfl,rfl⟩
 go_wp2
 go_loopw [3,6] (fun s3 s6 wr=>∃k:Nat,k<=28/\s6=.int .i64 ((12+4*k:Nat):Int)/\wr.ownsRow w.heap.size 3 1 s3 k (numsV (unsTo l k))/\Below w.heap.size w wr) (fun _ i _=>200-(intOf i).toNat)
 case atStart=>exact ⟨0,Nat.zero_le _,rfl,⟨rfl,.inl ⟨rfl,rfl⟩⟩,Below.refl _ _⟩
 case round =>
  obtain ⟨k,hk,rfl,hown,hbr⟩:=hrel
  have HO:=hid (And.intro hown hbr)
  clear hown hbr
  by_cases hlt:k<28
  ·have HG:=hid (HR.out wr HO.out.2 k hlt)
   have hx:=HL.out k
   have HSK:=hid (HS.out k)
   have hq:12+4*k<124:=by omega
   have HQ4:Hid (12+4*(k+1)=12+4*k+4):=hid (by omega)
   have hw:IntKind.i64.wrap ((numAt l k:Nat):Int)=((numAt l k:Nat):Int):=by rw [IntKind.wrap_i64];omega
   generalize numAt l k=x at *
   generalize 12+4*k=q at *
   go_wp2_with fail
   refine HG.out.mono ?_
   rintro e w' ⟨rfl,rfl⟩
   have hown:=HO.out.1
   have hbel:=HO.out.2
   have hsz:=HO.out.2.size
   go_wp2_with (at_builtin;refine append1 rfl _ _ 22 rfl w.heap.size 3 i0 (.int .i64 0) 8 Tryz.underlying22 hi hz0 hz1 hz2 rfl _ k _ rfl (.int .i64 (x:Int)) rfl rfl (by exact hown) (by unfold maxLen;omega) (by omega) w (by exact hbel) (by exact hsz) ?_;intro v' w1 hown1 hbel1)
   have HN:Hid (w1.ownsRow w.heap.size 3 1 v' (k+1) (numsV (unsTo l (k+1)))):=hid (by rw [HSK.out];unfold numsV at hown1 ⊢;rw [List.map_append];exact hown1)
   clear hown hbel hsz hown1
   go_roundw
   case rel=>exact ⟨k+1,by omega,by rw [HQ4.out];go_num,HN.out,hbel1⟩
   case measure=>simp [intOf];omega
  ·obtain rfl:k=28:=by omega
   have hU:=HU.out
   clear hlt hk
   go_wp2
   go_ret2
   exact ⟨_,by rw [<- HU.out];rfl,HO.out.1,HO.out.2⟩
open Go.Proofs.YtcnjpmcelihknaaGreatDoor.U (Pad Fresh equal_any)
theorem add_zero (a:Addr):a.add 0=a:=by
 unfold Addr.add
 split
 ·rfl
 ·rename_i h;cases a;simp_all
theorem fresh_reads {w w':World} {l:List Nat} {v:Value} (h:Fresh w l v w') (hl:l.length=128):∃g,v=.slice (some ⟨g,0,none⟩) 128 128/\w.heap.size<=g/\Reads w' w'.heap.size (some ⟨g,0,none⟩) 128 (bts l)/\Below w.heap.size w w':=by
 obtain ⟨g,rfl,hg,hh,hb⟩:=h
 exact ⟨g,rfl,hg,Go.Proofs.YtcnjpmcelihknaaGreatDoor.S.reads_row hh (lt_of_block hh) hl,hb⟩
theorem own_nums {w:World} {B n:Nat} {v:Value} {ns:List Nat} (h:w.ownsRow B 3 1 v n (numsV ns)) (hn:0<n):∃(ad:Addr) (cap:Nat),v=.slice (some ad) n cap/\n<=cap/\ad.block<w.heap.size/\B<=ad.block/\∀i,i<n->w.cell? (ad.add i)=some (.int .i64 ((ns.getD i 0:Nat):Int)):=by
 obtain ⟨A,c,rfl,hr,h1,h2⟩:=own_shape h
 obtain ⟨ad,rfl,hab,hac⟩:=hr.2 hn
 have hl:ns.length=n:=by have:=hr.1;simpa [numsV] using this
 refine ⟨ad,c,rfl,h1,hab,(h.lt ad.block rfl).1,fun i hi=>hac i _ ?_⟩
 simp [numsV,List.getD,show i<ns.length by omega]
def okH (l:List Nat):Bool:=seqB (unsSeq l) && numB ((numAt l 0:Nat):Int) && decide (sealL headM (unsSeq l).toNat [numAt l 0]=l)
theorem headM_facts:headM.length=4/\Small headM:=⟨rfl,magic_head.2.1⟩
theorem descM_facts:descM.length=4/\Small descM:=⟨rfl,magic_desc.2.1⟩
theorem below_drewN {B:Nat} {w w':World} (h:Below B w w') (n:Nat):Below B w (w'.drewN n):=h.trans ⟨rfl,rfl,rfl,Nat.le_refl _,fun _ _=>rfl⟩
def toldH (l:List Nat):Value:=if okH l=true then .tuple #[.int .i64 (unsSeq l),.int .i64 (((numAt l 0):Nat):Int),.int .i64 0] else .tuple #[.int .i64 0,.int .i64 0,.int .i64 8]
theorem readHead_any (A:Option Addr) (c:Nat) (l:List Nat) (w:World) (hl:Small l) (hr:Reads w w.heap.size A 128 (bts l)) (hT:Tabs w) :
  Calls Tryz.prog 19 #[.slice A 128 c] w fun e w'=>e=.returned (toldH l)/\Below w.heap.size w w':=by
 have HU:=hid (unseal_any A c l w hl hr)
 have HT:=hid (fun w' (h:Below w.heap.size w w')=>hT.below hT.size h)
 have HR:=hid (fun (w':World) (h:Below w.heap.size w w')=>(hr.below h).more h.size)
 have HL:=hid hl
 have e0:(unsTo l 28).getD 0 0=numAt l 0:=rfl
 have HE0:=hid e0
 have hx:=numAt_lt hl 0
 have hwu:IntKind.u32.wrap ((numAt l 0:Nat):Int)=((numAt l 0:Nat):Int):=by rw [IntKind.wrap_u32];omega
 have HLEN:Hid ((sealL headM (unsSeq l).toNat [numAt l 0]).length=128):=hid (sealL_length headM_facts.1 _ (by simp))
 have HSM:Hid (Small (sealL headM (unsSeq l).toNat [numAt l 0])):=hid (sealL_small headM_facts.2 _ _)
 have HTO:Hid (toldH l=if ((seqB (unsSeq l) && numB (((numAt l 0):Nat):Int)) && decide (sealL headM (unsSeq l).toNat [numAt l 0]=l))=true then .tuple #[.int .i64 (unsSeq l),.int .i64 (((numAt l 0):Nat):Int),.int .i64 0] else .tuple #[.int .i64 0,.int .i64 0,.int .i64 8]):=hid rfl
 generalize toldH l=tl at *
 generalize unsTo l 28=us at *
 generalize numAt l 0=a at *
 generalize unsSeq l=sq at *
 clear e0 hr hT hl
 by_cases hok:(seqB sq && numB ((a:Nat):Int))=true
 ·have hok2:=hok
  unfold seqB numB at hok2
  simp only [Bool.and_eq_true,decide_eq_true_eq] at hok2
  obtain ⟨s,rfl⟩:∃s:Nat,sq=(s:Int):=⟨sq.toNat,by omega⟩
  have HD:=hid (fun w' (h:Below w.heap.size w w')=>head_ok s a w' (by omega) (by omega) (by omega) (HT.out w' h))
  rw [hok,Bool.true_and] at HTO
  have hts:((s:Int)).toNat=s:=by omega
  rw [hts] at HTO HLEN HSM
  clear hok hok2 hts
  by_cases heq:sealL headM s [a]=l
  ·rw [decide_eq_true heq,if_pos rfl] at HTO
   have HEQ:=hid heq
   clear heq
   go_enter Tryz.func19,Tryz.ntmps19
   go_wp2_with fail
   refine HU.out.mono ?_
   rintro e w1 ⟨v,rfl,hown,hb1⟩
   obtain ⟨ad,cap,rfl,_,hab,_,hc⟩:=own_nums hown (by decide)
   have hc0:=hc 0 (by decide)
   rw [HE0.out] at hc0
   have hc1:=hc0
   rw [add_zero] at hc1
   have HC:=hid (And.intro hc0 (And.intro hab hb1))
   clear hown hc
   go_wp2_with fail
   refine (HD.out w1 hb1).mono ?_
   rintro e w2 ⟨v2,rfl,hf⟩
   obtain ⟨g,rfl,hg,hrd,hb2⟩:=fresh_reads hf HLEN.out
   have hb02:=HC.out.2.2.trans (hb2.mono HC.out.2.2.size)
   have HEE:=hid (fun d=>equal_any (some ⟨g,0,none⟩) A 128 d 128 c _ _ w2 HSM.out HL.out hrd (HR.out w2 hb02))
   rw [HEQ.out,decide_eq_true rfl] at HEE
   have k0:=(hb2.cell (p:=ad.add 0) (by rw [block_of_add];exact HC.out.2.1)).trans HC.out.1
   have k1:=k0
   rw [add_zero] at k1
   have HB02:=hid hb02
   clear hc0 hc1 hab hb1 hf hrd hb2 hb02 hg
   go_wp2_with fail
   refine (HEE.out _).mono ?_
   rintro e w' ⟨rfl,rfl⟩
   go_wp2
   go_quiet (fail)
   go_wp2
   go_ret3
   exact ⟨by rw [HTO.out];rfl,below_drewN HB02.out _⟩
  ·rw [decide_eq_false heq,if_neg Bool.false_ne_true] at HTO
   have HEQ:=hid heq
   clear heq
   go_enter Tryz.func19,Tryz.ntmps19
   go_wp2_with fail
   refine HU.out.mono ?_
   rintro e w1 ⟨v,rfl,hown,hb1⟩
   obtain ⟨ad,cap,rfl,_,hab,_,hc⟩:=own_nums hown (by decide)
   have hc0:=hc 0 (by decide)
   rw [HE0.out] at hc0
   have hc1:=hc0
   rw [add_zero] at hc1
   have HC:=hid (And.intro hc0 (And.intro hab hb1))
   clear hown hc
   go_wp2_with fail
   refine (HD.out w1 hb1).mono ?_
   rintro e w2 ⟨v2,rfl,hf⟩
   obtain ⟨g,rfl,hg,hrd,hb2⟩:=fresh_reads hf HLEN.out
   have hb02:=HC.out.2.2.trans (hb2.mono HC.out.2.2.size)
   have HEE:=hid (fun d=>equal_any (some ⟨g,0,none⟩) A 128 d 128 c _ _ w2 HSM.out HL.out hrd (HR.out w2 hb02))
   rw [decide_eq_false HEQ.out] at HEE
   have k0:=(hb2.cell (p:=ad.add 0) (by rw [block_of_add];exact HC.out.2.1)).trans HC.out.1
   have k1:=k0
   rw [add_zero] at k1
   have HB02:=hid hb02
   clear hc0 hc1 hab hb1 hf hrd hb2 hb02 hg
   go_wp2_with fail
   refine (HEE.out _).mono ?_
   rintro e w' ⟨rfl,rfl⟩
   go_wp2
   go_ret3
   exact ⟨by rw [HTO.out];rfl,HB02.out⟩
 ·have hok2:(seqB sq && numB ((a:Nat):Int))=false:=by simpa using hok
  have HD:=hid (fun w'=>head_no sq (a:Int) w' (by rw [<- Bool.and_eq_false_iff];simpa using hok))
  rw [hok2,Bool.false_and,if_neg Bool.false_ne_true] at HTO
  clear hok hok2
  go_enter Tryz.func19,Tryz.ntmps19
  go_wp2_with fail
  refine HU.out.mono ?_
  rintro e w1 ⟨v,rfl,hown,hb1⟩
  obtain ⟨ad,cap,rfl,_,hab,_,hc⟩:=own_nums hown (by decide)
  have hc0:=hc 0 (by decide)
  rw [HE0.out] at hc0
  have hc1:=hc0
  rw [add_zero] at hc1
  have HC:=hid (And.intro hc0 (And.intro hab hb1))
  clear hown hc
  go_wp2_with fail
  refine (HD.out w1).mono ?_
  rintro e w2 ⟨rfl,hb2⟩
  have HB02:=hid (HC.out.2.2.trans (hb2.mono HC.out.2.2.size))
  clear hc0 hc1 hab hb1 hb2
  go_wp2
  go_ret3
  exact ⟨by rw [HTO.out];rfl,HB02.out⟩
end Go.Proofs.YtcnjpmcelihknaaGreatDoor.Kj
namespace Go.Proofs.YtcnjpmcelihknaaGreatDoor.U
open Go.RowKit Go.Maps
structure Same (S T:Sh.Sf):Prop where
 disks:T.disks=S.disks
 sectors:T.sectors=S.sectors
 off:T.off=S.off
 left:T.left=S.left
theorem Same.refl (S:Sh.Sf):Same S S:=⟨rfl,rfl,rfl,rfl⟩
theorem Same.looked {S T:Sh.Sf} (h:Same S T) (d:Nat):Same S (Looked T d) :=
 ⟨(looked_disks T d).trans h.disks,(looked_sectors T d).trans h.sectors,(looked_off T d).1.trans h.off,(looked_off T d).2.trans h.left⟩
theorem Same.calm {S T:Sh.Sf} (h:Same S T) {d:Nat} (c:Calm S d):Calm T d:=by
 obtain ⟨c1,c2,c3,c4,c5⟩:=c
 exact ⟨by rw [h.disks];exact c1,h.off.trans c2,h.left.trans c3,by rw [h.disks];exact c4,by rw [h.disks,h.sectors];exact c5⟩
theorem Same.V {S T:Sh.Sf} (h:Same S T) (d n:Nat):U.V T d n=U.V S d n:=by unfold U.V;rw [h.disks]
theorem Same.good {S T:Sh.Sf} (h:Same S T) (d k:Nat):goodAt T d k=goodAt S d k:=by unfold goodAt;rw [h.V,h.V]
def Calms (S:Sh.Sf) (n:Nat):Prop:=∀d,d<n->Calm S d
theorem calm_fl {S:Sh.Sf} {d e:Nat} (c:Calm S d) (h:Calm S e):Calm (Fl S d) e:=by
 by_cases he:e=d
 ·subst he;exact c.fl
 ·have hg:=fl_getD S d c.lt c.why e
  rw [if_neg he] at hg
  have hf:=c.fl
  obtain ⟨_,f2,f3,_,_⟩:=hf
  obtain ⟨h1,_,_,h4,h5⟩:=h
  exact ⟨by rw [fl_length];exact h1,f2,f3,by rw [hg];exact h4,by rw [hg,fl_sectors];exact h5⟩
theorem fdS_calm {S:Sh.Sf} {n:Nat} (h:Calms S n) {k:Nat} (hk:k<=n):(fdS S k).2=0/\Calms (fdS S k).1 n:=by
 induction k with
 | zero=>exact ⟨rfl,h⟩
 | succ k ih =>
  obtain ⟨h1,h2⟩:=ih (by omega)
  rw [fdS_succ S h1]
  refine ⟨?_,fun d hd=>calm_fl (h2 k (by omega)) (h2 d hd)⟩
  show bd (Sh.why (fdS S k).1 k)=0
  rw [(h2 k (by omega)).why]
  rfl
section
variable {B:Nat} {W w w':World} {v p t n mo mu:Nat} {s:SuP} {base:Int} {a:Nat->Nat} {o:Nat->Int} {g:Nat->Option Addr} {S S':Sh.Sf} {F:Nat->Prop}
theorem Vo.reads (h:Vo B W w v p t n mo mu s base a o g S F) {i:Nat} (hD:Dv B W w' (a i) p i (o i) S' F) (ho:Sh.Only F w w'):VGoes B W w w' v p t n mo mu s base a o g S' F :=
 h.goes ⟨F,h.ds.stays hD.on.shelf ho,ho.mono fun _ hb=>.inl hb,fun _ hb=>.inl hb⟩
def NoRel (B:Nat) (W w wr:World) (v p t n mo mu:Nat) (s:SuP) (base:Int) (a:Nat->Nat) (o:Nat->Int) (g:Nat->Option Addr) (S:Sh.Sf) (F:Nat->Prop):Prop :=
 ∃T,Same S T/\VGoes B W w wr v p t n mo mu s base a o g T F
theorem noughts_calm (h:Vo B W w v p t n mo mu s base a o g S F) (hT:Tabs W) (hTB:max 0 1+1<=B) (hn:S.disks.length=n) (hL:∀k∈S.disks,k.waits.length<1099511627776) (hc:Calms S n)
  (x:SuP) (str logs:Nat) (hx1:x.str=(str:Int)) (hx2:x.logs=(logs:Int)) (h1:1<=logs) (h2:logs<=8) (h3:1<=str) (h4:str<=1024) (hb:2+2*logs+str<=blk S.sectors)
  (hz:∀d,d<n->∀k,k<2+2*logs+str->goodAt S d k=true/\V S d (dataOf k)=Sh.noughts) :
  Calls Tryz.prog 74 #[.pointer (some ⟨v,0,none⟩),x.val] w fun e w'=>e=.returned (.int .i64 0)/\∃o' T,Same S T/\VGoes B W w w' v p t n mo mu s base a o' g (fdS T n).1 F:=by
 have h17:n<=17:=by
  obtain ⟨D,gs,q⟩:=h.ds.on.shelf
  have:=q.most
  omega
 have hnd:=hid (need_ok str logs h1 h2 h3 h4)
 have hbw:Below w.heap.size w (w.alloc (.cells x.cells 123)):=(Below.refl _ _).alloc (Nat.le_refl _) _
 have hrel0:Hid (NoRel B W w (w.alloc (.cells x.cells 123)) v p t n mo mu s base a o g S F):=hid ⟨S,Same.refl S,VGoes.here h hbw⟩
 have q0:=heap_alloc_new w (.cells x.cells 123)
 have c3:=cell_of_row _ _ 3 _ _ _ q0
 have c4:=cell_of_row _ _ 4 _ _ _ q0
 have hv:=hid (h.vol.vlt)
 unfold Go.Proofs.YtcnjpmcelihknaaGreatDoor.S.Sup.val
 simp only [Go.Proofs.YtcnjpmcelihknaaGreatDoor.S.Sup.cells,List.getElem?_toArray,List.getElem?_cons_zero,List.getElem?_cons_succ,hx1,hx2] at *
 generalize hN:2+2*logs+str=need at *
 have hneed:need<=1042:=by omega
 clear hN h h1 h2 h3 h4 hx1 hx2
 go_enter Tryz.func74,Tryz.ntmps74
 go_wp2_with (go_at_call 129;refine (hnd.out _).mono ?_;rintro e w' ⟨rfl,rfl⟩)
 clear q0 c3 c4 hnd hbw
 generalize w.alloc _=w0 at *
 go_loopw [23] (fun i wr=>∃k:Nat,k<=need/\i=.int .i64 k/\Hid (NoRel B W w wr v p t n mo mu s base a o g S F)) (fun i _=>need-(intOf i).toNat)
 case atStart=>exact ⟨0,Nat.zero_le _,rfl,hrel0⟩
 case round =>
  obtain ⟨k,hk,rfl,hrel⟩:=hrel
  by_cases hkt:k<need
  ·obtain ⟨T0,_,F0,V0,_⟩:=hrel.out
   have c10:=V0.vol.c10
   clear V0
   go_wp2
   clear c10
   go_loopw [31] (fun i wr=>∃j:Nat,j<=n/\i=.int .i64 j/\Hid (NoRel B W w wr v p t n mo mu s base a o g S F)) (fun i _=>n-(intOf i).toNat)
   case atStart=>exact ⟨0,Nat.zero_le _,rfl,hrel⟩
   case round =>
    obtain ⟨j,hj,rfl,hrel⟩:=hrel
    by_cases hlt:j<n
    ·obtain ⟨T,hS,F1,V1,M1⟩:=hrel.out
     have d0:=V1.vol.dev hlt
     have d1:=V1.vol.log hlt
     have hbw:Below wr.heap.size wr (wr.alloc (.cells #[.pointer (some ⟨a j,0,none⟩),.pointer (g j)] 130)):=(Below.refl _ _).alloc (Nat.le_refl _) _
     have hl:=heap_alloc_new wr (.cells #[.pointer (some ⟨a j,0,none⟩),.pointer (g j)] 130)
     have V2:=V1.grown hbw
     obtain ⟨z1,z2⟩:=hz j hlt k hkt
     have HNO:=hid (nought_calm (V2.ds.dv hlt) hT hTB (hS.calm (hc j hlt)) k (by rw [hS.sectors];omega) (by rw [hS.good];exact z1) (by rw [hS.V];exact z2) (g j))
     have M2:Sh.Moves (AllB F a n) w (AllB F1 a n) (wr.alloc (.cells #[.pointer (some ⟨a j,0,none⟩),.pointer (g j)] 130)):=M1.trans ⟨⟨hbw.os,hbw.tape,hbw.output,hbw.size,fun k hk _=>hbw.block k hk⟩,fun _ hb=>.inl hb⟩
     have KEEP:=hid (And.intro hS (And.intro V2 M2))
     clear hbw V1 M1 V2 hrel M2 hS z1 z2
     have l0:=cell_of_row _ _ 0 _ _ _ hl
     have l1:=cell_of_row _ _ 1 _ _ _ hl
     simp only [List.getElem?_toArray,List.getElem?_cons_zero,List.getElem?_cons_succ] at l0 l1
     clear hl
     go_wp2_with fail
     refine HNO.out.mono ?_
     rintro e w2 ⟨rfl,hD,hO⟩
     obtain ⟨hS,V2,M2⟩:=KEEP.out
     have HG:=hid (show NoRel B W w w2 v p t n mo mu s base a o g S F from ⟨_,hS.looked j,VGoes.trans M2 (V2.reads hD hO)⟩)
     clear hD hO hS V2 M2 KEEP d0 d1 l0 l1 HNO
     go_wp2
     go_roundw
     case rel=>exact ⟨j+1,by omega,by go_num,HG⟩
     case measure=>simp [intOf];omega
    ·obtain rfl:j=n:=by omega
     go_wp2
     go_roundw
     case rel=>exact ⟨k+1,by omega,by go_num,hrel⟩
     case measure=>simp [intOf];omega
  ·obtain rfl:k=need:=by omega
   obtain ⟨T,hS,F1,V1,M1⟩:=hrel.out
   have HFD:=hid (flushDisks_any V1 (by rw [hS.disks];exact hn) (by rw [hS.disks];exact hL))
   have hz0:=(fdS_calm (S:=T) (n:=n) (fun d hd=>hS.calm (hc d hd)) (Nat.le_refl n)).1
   rw [hz0] at HFD
   have KEEP:=hid (And.intro hS M1)
   clear hrel hS V1 M1 hz0
   go_wp2_with (go_at_call 135;refine HFD.out.mono ?_;rintro e w2 ⟨rfl,o',hG⟩)
   go_ret
   exact ⟨rfl,o',T,KEEP.out.1,VGoes.trans KEEP.out.2 hG⟩
end
def Alike (d:Nat) (S T:Sh.Sf):Prop:=T.disks.length=S.disks.length/\∀e,e≠d->T.disks.getD e default=S.disks.getD e default
theorem Alike.refl (d:Nat) (S:Sh.Sf):Alike d S S:=⟨rfl,fun _ _=>rfl⟩
theorem Alike.trans {d:Nat} {S T U:Sh.Sf} (h:Alike d S T) (k:Alike d T U):Alike d S U:=⟨k.1.trans h.1,fun e he=>(k.2 e he).trans (h.2 e he)⟩
theorem getD_set_ne {l:List Sh.Dk} {d e:Nat} (x:Sh.Dk) (h:e≠d):(l.set d x).getD e default=l.getD e default:=by
 simp [List.getD,List.getElem?_set_ne (Ne.symm h)]
theorem alike_wr (S:Sh.Sf) (d n:Nat) (b:Sh.Bs):Alike d S (Wr S d n b):=by
 unfold Wr
 split
 ·exact ⟨List.length_set,fun e he=>getD_set_ne _ he⟩
 ·exact Alike.refl d S
theorem alike_fl (S:Sh.Sf) (d:Nat):Alike d S (Fl S d):=by
 unfold Fl
 split
 ·exact ⟨List.length_set,fun e he=>getD_set_ne _ he⟩
 ·exact Alike.refl d S
theorem alike_looked (S:Sh.Sf) (d c:Nat):Alike d S (Looked S c):=⟨by rw [looked_disks],fun e _=>by rw [looked_disks]⟩
theorem alike_ready (S:Sh.Sf) (d:Nat) (o:Int) (k:Nat) (g:Bool) (s sum:Nat) (v:Sh.Bs) (b:Sh.Bs):Alike d S (ReadyQ (Looked S d) d o k g s sum v b):=by
 unfold ReadyQ
 refine Alike.trans (Alike.trans ?_ (alike_wr _ d _ _)) (alike_fl _ d)
 have h1:Alike d S (flIf (Looked S d) d o k):=by
  refine (alike_looked S d d).trans ?_
  unfold flIf
  split
  ·exact alike_fl _ d
  ·exact Alike.refl d _
 refine h1.trans ?_
 unfold spIf
 split
 ·exact (alike_wr _ d _ _).trans (alike_fl _ d)
 ·exact Alike.refl d _
structure Sured (S:Sh.Sf) (d k:Nat) (b:Sh.Bs) (P:Cs) (m:Nat) (y:Int) (o':Int) (S':Sh.Sf):Prop where
 jp:Jp S' d o' (fun c=>P c\/(S.off=false/\c=upd (vals (dk S d)) k b))
 done:y=0->Jp S' d o' (fun c=>c=upd (vals (dk S d)) k b)/\vals (dk S' d)=upd (vals (dk S d)) k b/\(dk S' d).waits=[]
 now:S'.off=false->y=0
 on:S'.off=false->S.off=false
 sectors:S'.sectors=S.sectors
 calm:Calm S d->y=0/\Calm S' d
 len:∀x∈S'.disks,x.waits.length<=m+2
 alike:Alike d S S'
section
variable {B:Nat} {W w:World} {a p d:Nat} {o:Int} {S:Sh.Sf} {F:Nat->Prop} {P:Cs}
theorem fl_on {S:Sh.Sf} {d:Nat} (h1:One S d) (h:(Fl S d).off=false):S.off=false:=by
 by_cases hw:Sh.why S d=0
 ·exact h1.why0.mp hw
 ·unfold Fl at h
  rw [if_neg hw] at h
  exact h
theorem sured_no {k m:Nat} {b:Sh.Bs} {y o':Int} {S1:Sh.Sf} (hw:Wrote S d k b P m y o' S1) (ha:Alike d S S1) (hy:y≠0):Sured S d k b P m y o' S1 :=
 ⟨hw.jp,fun e=>absurd e hy,fun e=>(hw.now e).2,hw.on,hw.sectors,hw.calm,hw.len,ha⟩
theorem sured_yes {k m:Nat} {b:Sh.Bs} {o':Int} {S1:Sh.Sf} (hw:Wrote S d k b P m 0 o' S1) (ha:Alike d S S1):Sured S d k b P m (Sh.why S1 d) (shut (Sh.why S1 d) o') (Fl S1 d):=by
 have h1:=hw.jp.one
 have hsec:(Fl S1 d).sectors=S.sectors:=(fl_sectors S1 d).trans hw.sectors
 have hlen:=fl_lens (d:=d) hw.len
 by_cases hon:S1.off=false
 ·have h0:=h1.why0.mpr hon
  obtain ⟨hn,_⟩:=hw.now hon
  obtain ⟨j1,j2,j3⟩:=hw.jp.flush hon (shut (Sh.why S1 d) o')
  rw [hn] at j1 j2
  exact ⟨j1.more fun c e=>.inr ⟨hw.on hon,e⟩,fun _=>⟨j1,j2,j3⟩,fun _=>h0,fun _=>hw.on hon,hsec,fun hc=>⟨h0,(hw.calm hc).2.fl⟩,hlen,ha.trans (alike_fl S1 d)⟩
 ·have hne:Sh.why S1 d≠0:=fun e=>hon (h1.why0.mp e)
  have e:Fl S1 d=S1:=if_neg hne
  rw [e] at hsec hlen ⊢
  refine ⟨hw.jp.off_any hon _,fun e=>absurd e hne,fun e=>absurd e hon,fun e=>absurd e hon,hsec,fun hc=>absurd (hw.calm hc).2.on hon,hlen,ha⟩
theorem write_jp2 (h:Dv B W w a p d o S F) (hT:Tabs W) (hTB:max 0 1+1<=B) (hj:Jp S d o P) (k:Nat) (hk:k<blk S.sectors) (b:Sh.Bs) {A:Option Addr} {c:Nat} {m:Nat}
  (hb:Sh.Sec b) (hA:Sh.Beside w (With F a) A b) (hL:∀k∈S.disks,k.waits.length<=m) (hm:m<=1000000) :
  Calls Tryz.prog 188 #[.pointer (some ⟨a,0,none⟩),.int .i64 k,.slice A 128 c] w fun e w'=>∃y:Int,e=.returned (.int .i64 y)/\∃o' S',Wrote S d k b P m y o' S'/\Alike d S S'/\Goes B W w w' a p d o' S' F:=by
 by_cases hw:Sh.why S d=0
 ·refine (write_done h hT hTB k hk hj.one.lt hw b hb hA (fun k hk=>by have:=hL k hk;omega)).mono ?_
  rintro e w' ⟨b',o',_,_,rfl,h0,_,hG⟩
  have hon:=hj.one.why0.mp hw
  have hg:=hj.good hon k hk
  rw [hg] at h0 hG ⊢
  have hv:=V_sec h.on.shelf hj.one.lt (n:=dataOf k) (sum_of_lt hk).1
  obtain ⟨j1,j2⟩:=hj.write hon k hk b b' hb.2 hv.2 h0
  have hse:(Wr (ReadyQ (Looked S d) d o k true (sumL d k (V S d (dataOf k))) (sumL d k b) (V S d (sumOf k)) b') d (dataOf k) b).sectors=S.sectors:=by
   rw [wr_sectors]
   unfold ReadyQ
   rw [fl_sectors,wr_sectors,spIf_sectors,flIf_sectors,looked_sectors]
  refine ⟨_,rfl,o',_,⟨j1.more (fun c e=>e.imp id (fun e=>⟨hon,e⟩)),fun e=>⟨j2 e,?_⟩,fun _=>hon,hse,fun hc=>?_,?_⟩,((alike_ready S d o k true _ _ _ b').trans (alike_wr _ d _ b)),hG⟩
  ·have hww:=j1.one.why0.mpr e
   by_cases hq:Sh.why (ReadyQ (Looked S d) d o k true (sumL d k (V S d (dataOf k))) (sumL d k b) (V S d (sumOf k)) b') d=0
   ·exact hq
   ·rw [wr_why hq] at hww;exact absurd hww hq
  ·obtain ⟨r1,_,_⟩:=ready_over hc o k hk b b'
   unfold Ready at r1
   rw [hg] at r1
   refine ⟨r1.calm.why,r1.calm.wr _ _⟩
  ·refine wr_lens (m:=m+1) (fl_lens ?_)
   refine wr_lens ?_
   have e:∀s x,spIf (flIf (Looked S d) d o k) d k true s x b'=flIf (Looked S d) d o k:=fun s x=>by unfold spIf;rw [if_neg (fun h=>by simp at h)]
   rw [e]
   have hlk:∀k∈(Looked S d).disks,k.waits.length<=m:=by rw [looked_disks];exact hL
   unfold flIf
   split
   ·exact fl_lens hlk
   ·exact hlk
 ·refine (write_why h k hk hj.one.lt hw A c).mono ?_
  rintro e w' ⟨rfl,hb⟩
  have hoff:S.off≠false:=fun e=>hw (hj.one.why0.mpr e)
  refine ⟨_,rfl,o,S,⟨hj.more (fun c e=>.inl e),fun e=>absurd e hoff,id,rfl,fun hc=>absurd hc.on hoff,fun k hk=>by have:=hL k hk;omega⟩,Alike.refl d S,F,h.grown hb,moves_below hb⟩
theorem sure_jp (h:Dv B W w a p d o S F) (hT:Tabs W) (hTB:max 0 1+1<=B) (hj:Jp S d o P) (k:Nat) (hk:k<blk S.sectors) (b:Sh.Bs) {A:Option Addr} {c:Nat} {m:Nat}
  (hb:Sh.Sec b) (hA:Sh.Beside w (With F a) A b) (hL:∀k∈S.disks,k.waits.length<=m) (hm:m<=1000000) (g:Option Addr) :
  Calls Tryz.prog 191 #[.agg #[.pointer (some ⟨a,0,none⟩),.pointer g],.int .i64 k,.slice A 128 c] w fun e w'=>∃y:Int,e=.returned (.int .i64 y)/\∃o' S',Sured S d k b P m y o' S'/\Goes B W w w' a p d o' S' F:=by
 have hbw:Below w.heap.size w (w.alloc (.cells #[.pointer (some ⟨a,0,none⟩),.pointer g] 130)):=(Below.refl _ _).alloc (Nat.le_refl _) _
 have hl:=heap_alloc_new w (.cells #[.pointer (some ⟨a,0,none⟩),.pointer g] 130)
 have hlt:=with_lt h
 have HWR:=hid (write_jp2 (c:=c) (h.grown hbw) hT hTB hj k hk b hb (hA.grown hbw) hL hm)
 have l0:=cell_of_row _ _ 0 _ _ _ hl
 simp only [List.getElem?_toArray,List.getElem?_cons_zero] at l0
 have HLT:=hid hlt
 have HB:=hid hbw
 have HL2:=hid hl
 have HM:=hid hm
 clear h hb hA hL hl hbw hlt hk hj hm
 go_enter Tryz.func191,Tryz.ntmps191
 go_wp2_with fail
 refine HWR.out.mono ?_
 rintro e w1 ⟨y,rfl,o1,S1,hW,hA1,F1,D1,M1⟩
 have hrow:w1.heap[w.heap.size]?=_:=(M1.1.block w.heap.size (lt_of_block HL2.out) (fun e=>Nat.lt_irrefl _ (HLT.out _ e))).trans HL2.out
 have k0:=cell_of_row _ _ 0 _ _ _ hrow
 simp only [List.getElem?_toArray,List.getElem?_cons_zero] at k0
 have M0:Sh.Moves (With F a) w (With F1 a) w1:=(moves_below HB.out).trans M1
 by_cases h0:y=0
 ·subst h0
  have HFL:=hid (flush_dev D1 hW.jp.one.lt (fun x hx=>by have:=hW.len x hx;have:=HM.out;omega))
  have KEEP:=hid (And.intro (sured_yes hW hA1) M0)
  generalize shut (Sh.why S1 d) o1=o2 at *
  generalize Sh.why S1 d=y2 at *
  clear hW hA1 D1 M1 M0 hrow l0 HWR
  go_wp2_with fail
  refine HFL.out.mono ?_
  rintro e w2 ⟨rfl,F2,D2,M2⟩
  go_wp2
  go_ret
  exact ⟨y2,rfl,o2,_,KEEP.out.1,F2,D2,KEEP.out.2.trans M2⟩
 ·have hq:(y == 0)=false:=by rw [beq_eq_false_iff_ne];exact h0
  have KEEP:=hid (And.intro (sured_no hW hA1 h0) (And.intro D1 M0))
  clear hW hA1 D1 M1 M0 hrow l0 HWR h0
  go_wp2
  go_ret
  exact ⟨y,rfl,o1,S1,KEEP.out.1,F1,KEEP.out.2.1,KEEP.out.2.2⟩
end
section
variable {B:Nat} {W w:World} {v p t n mo mu:Nat} {s:SuP} {base:Int} {a:Nat->Nat} {o:Nat->Int} {g:Nat->Option Addr} {S:Sh.Sf} {F:Nat->Prop}
theorem sup_cells {w:World} {q:Nat} {x:SuP} (h:w.heap[q]?=some (.cells x.cells 123 (0,0))) :
  w.cell? ⟨q,0,none⟩=some (.int .i64 x.gen)/\w.cell? ⟨q,1,none⟩=some (.int .i64 x.mem)/\w.cell? ⟨q,2,none⟩=some (.int .i64 x.disk)/\w.cell? ⟨q,3,none⟩=some (.int .i64 x.str)/\w.cell? ⟨q,4,none⟩=some (.int .i64 x.logs)/\w.cell? ⟨q,5,none⟩=some (.int .i64 x.spare)/\w.cell? ⟨q,6,none⟩=some (.int .i64 x.mark)/\w.cell? ⟨q,7,none⟩=some (.int .i64 x.cur) :=
 ⟨cell_of_row _ _ 0 _ _ _ h,cell_of_row _ _ 1 _ _ _ h,cell_of_row _ _ 2 _ _ _ h,cell_of_row _ _ 3 _ _ _ h,cell_of_row _ _ 4 _ _ _ h,cell_of_row _ _ 5 _ _ _ h,cell_of_row _ _ 6 _ _ _ h,cell_of_row _ _ 7 _ _ _ h⟩
def Fit (n:Nat) (x:SuP):Prop:=((n:Int)=x.mem/\x.spare=-1)\/(n:Int)=x.mem+1
set_option maxRecDepth 20000 in
theorem fits_yes (h:Vo B W w v p t n mo mu s base a o g S F) (hn:S.disks.length=n) (x:SuP) (str logs:Nat) (hx1:x.str=(str:Int)) (hx2:x.logs=(logs:Int)) (h1:1<=logs) (h2:logs<=8) (h3:1<=str) (h4:str<=1024)
  (hr:x.right=true) (hf:Fit n x) (hb:2+2*logs+str<=blk S.sectors) :
  Calls Tryz.prog 71 #[.pointer (some ⟨v,0,none⟩),x.val] w fun e w'=>e=.returned (.bool true)/\Below w.heap.size w w':=by
 have h17:n<=17/\1<=n:=by
  obtain ⟨D,gs,q⟩:=h.ds.on.shelf
  have:=q.most
  have:=q.some_
  omega
 have hnd:=hid (need_ok str logs h1 h2 h3 h4)
 have hri:=hid (fun w=>Go.Proofs.YtcnjpmcelihknaaGreatDoor.S.right_any x w)
 rw [hr] at hri
 have hbw:Below w.heap.size w (w.alloc (.cells x.cells 123)):=(Below.refl _ _).alloc (Nat.le_refl _) _
 have hq:=hid (heap_alloc_new w (.cells x.cells 123))
 have H:=hid h
 have HN:=hid hn
 have HF:=hid hf
 have HB:=hid hb
 have hcs:=sup_cells hq.out
 simp only [hx1,hx2] at hcs
 obtain ⟨c0,c1,c2,c3,c4,c5,c6,c7⟩:=hcs
 unfold Go.Proofs.YtcnjpmcelihknaaGreatDoor.S.Sup.val at *
 have HW:=hid hbw
 have hgrow:∀w2,Below (w.alloc (.cells x.cells 123)).heap.size (w.alloc (.cells x.cells 123)) w2->w2.cell? ⟨w.heap.size,1,none⟩=some (.int .i64 x.mem)/\w2.cell? ⟨w.heap.size,5,none⟩=some (.int .i64 x.spare)/\w2.cell? ⟨v,10,none⟩=some (.slice (some ⟨t,0,none⟩) n n)/\w2.cell? ⟨t,0,none⟩=some (.pointer (some ⟨a 0,0,none⟩))/\Hid (∀k,Calls Tryz.prog 131 #[.pointer (some ⟨a 0,0,none⟩)] (w2.drewN k) fun e w'=>e=.returned (.int .i64 ((blk S.sectors:Nat):Int))/\∃n,w'=(w2.drewN k).drewN n)/\Below w.heap.size w w2:=by
  intro w2 hb2
  have hb3:=HW.out.trans (hb2.mono HW.out.size)
  have V2:=H.out.grown hb3
  have hrow:=(hb2.block w.heap.size (lt_of_block hq.out)).trans hq.out
  obtain ⟨_,k1,_,_,_,k5,_⟩:=sup_cells hrow
  have hd:=V2.vol.dev (j:=0) (by omega)
  exact ⟨k1,k5,V2.vol.c10,by simpa using hd,hid (fun k=>by
   have V3:=V2.grown (w':=w2.drewN k) (drawn (Below.refl _ w2) k)
   exact count_of (V3.ds.dv (i:=0) (by omega)).dev V3.ds.on.shelf (secM_of V3.ds.on.shelf)),hb3⟩
 have HG:=hid hgrow
 generalize hN:2+2*logs+str=need at *
 generalize hBK:blk S.sectors=bk at *
 have hge:decide (need<=bk)=true:=by simp;omega
 clear hgrow hbw h hn hb hN hBK hr h1 h2 h3 h4 hq hf
 obtain ⟨x0,x1,x2,x3,x4,x5,x6,x7⟩:=x
 simp only at hx1 hx2
 subst hx1 hx2
 simp only [Go.Proofs.YtcnjpmcelihknaaGreatDoor.S.Sup.cells] at *
 go_enter Tryz.func71,Tryz.ntmps71
 go_wp2_with (first
  | (go_at_call 129;refine (hnd.out _).mono ?_;rintro e w' ⟨rfl,rfl⟩)
  | (go_at_call 130;refine (hri.out _).mono ?_;rintro e w2 ⟨rfl,hb2⟩;clear c0 c1 c2 c3 c4 c5 c6 c7;obtain ⟨k1,k5,k10,kd,HC,hb3⟩:=HG.out w2 hb2))
 rcases HF.out with ⟨e1,e2⟩ | e1
 ·simp only at e1 e2
  subst e2
  have hs0:(n:Int)-x1=0:=by omega
  clear hri HG HW HF hnd HB e1
  go_quiet (fail)
  go_wp2_with (go_at_call 131;refine (HC.out _).mono ?_;rintro e w' ⟨rfl,m,rfl⟩)
  go_ret
  exact ⟨rfl,drawn hb3 _⟩
 ·simp only at e1
  have hs0:(n:Int)-x1=1:=by omega
  clear hri HG HW HF hnd HB e1
  go_quiet (fail)
  go_wp2_with (go_at_call 131;refine (HC.out _).mono ?_;rintro e w' ⟨rfl,m,rfl⟩)
  go_ret
  exact ⟨rfl,drawn hb3 _⟩
end
end Go.Proofs.YtcnjpmcelihknaaGreatDoor.U
