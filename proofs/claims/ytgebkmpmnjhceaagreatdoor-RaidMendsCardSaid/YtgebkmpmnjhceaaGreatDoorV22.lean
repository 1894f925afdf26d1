/-
  What the statement's proof rests on, part 22.
  Conditions: each theorem's own.
-/
import Derived.Test.YtgebkmpmnjhceaaGreatDoorV21
open Go.Lib (hid)
namespace Go.Proofs.YtgebkmpmnjhceaaGreatDoor.U
open Go.RowKit Go.Maps
theorem base_ok (n:Nat) (h1:1<=n) (h2:n<=8) (w:World):Calls Tryz.prog 98 #[.int .i64 n] w fun e w'=>e=.returned (.tuple #[.int .i64 ((2+2*n:Nat):Int),.int .i64 0])/\w=w':=by
 have hx:=hid (show 2+2*(n:Int)=((2+2*n:Nat):Int) by omega)
 have q2:decide ((n:Int)<=8)=true:=by simp;omega
 go_enter Tryz.func98,Tryz.ntmps98
 go_wp2
 go_ret2
 exact ⟨by rw [<- hx.out];rfl,rfl⟩
theorem stripes_yes (s:Int) (h1:1<=s) (h2:s<=1024) (w:World):Calls Tryz.prog 100 #[.int .i64 s] w fun e w'=>e=.returned (.bool true)/\w=w':=by
 have q1:decide (s≥1)=true:=by simp;omega
 have q2:decide (s<=1024)=true:=by simp;omega
 go_enter Tryz.func100,Tryz.ntmps100
 go_wp2
 go_ret
 exact ⟨rfl,rfl⟩
theorem need_ok (s n:Nat) (h1:1<=n) (h2:n<=8) (h3:1<=s) (h4:s<=1024) (w:World):Calls Tryz.prog 92 #[.int .i64 s,.int .i64 n] w fun e w'=>e=.returned (.tuple #[.int .i64 ((2+2*n+s:Nat):Int),.int .i64 0])/\w=w':=by
 have hq:=hid (base_ok n h1 h2)
 have hx:=hid (show ((2+2*n:Nat):Int)+(s:Int)=((2+2*n+s:Nat):Int) by omega)
 have hy:2+2*n<=18:=by omega
 have hs:=hid (stripes_yes s (by omega) (by omega))
 generalize 2+2*n+s=z at *
 generalize 2+2*n=x at *
 go_enter Tryz.func92,Tryz.ntmps92
 go_wp2_with (first
  | (go_at_call 98;refine (hq.out _).mono ?_;rintro e w' ⟨rfl,rfl⟩)
  | (go_at_call 100;refine (hs.out _).mono ?_;rintro e w' ⟨rfl,rfl⟩))
 go_ret2
 exact ⟨by rw [<- hx.out];rfl,rfl⟩
section
variable (s q:Int) (A:Option Addr) (n0 c:Nat) (w:World)
end
section
variable {B:Nat} {W w w':World} {g a p d n:Nat} {o:Int} {S S':Sh.Sf} {F:Nat->Prop} {P:Cs}
theorem goes_only {o':Int} (hG:Goes B W w w' a p d o' S' F) (b:Nat) (hb:b<w.heap.size) (hn:¬With F a b):w'.heap[b]?=w.heap[b]?:=by
 obtain ⟨F',_,m⟩:=hG
 exact m.1.block b hb hn
end
theorem pad_noughts {w:World} {g:Nat} (h:Pad w g []):Reads w w.heap.size (some ⟨g,0,none⟩) 128 (bts Sh.noughts):=by
 have h2:=h.more 128 (by decide)
 have:=h2.reads
 exact this
theorem wp_make_noughts {o:Oper} {a:Act} {w:World} {K:Act->World->Prop} {Q:Exit->Act->World->Prop} (l c:Operand) (hop:o.op=Op.makeSlice 41 l c) (hl:a.eval l=.int .i64 128) (hc:a.eval c=.int .i64 128)
  (hK:∀w',Pad w' w.heap.size []->Below w.heap.size w w'->K (a.put o.dst (.slice (some ⟨w.heap.size,0,none⟩) 128 128)) w'):Oper.wp Tryz.prog o a w K Q:=by
 obtain ⟨i,hi,hz,hsz,hby⟩:=info_parts info_u8
 have hrun:=run_make (P:=Tryz.prog) w 41 5 i (.int .u8 0) Tryz.underlying41 hi hz .i64 .i64 128 128 (by decide) (by decide) (by rw [hby];decide) (by decide)
 rw [hsz] at hrun
 unfold Oper.wp
 simp only [execOp,hop,hl,hc,Sem.run_bind,hrun,Result.andThen_ok]
 exact hK _ pad_zero ((Below.refl _ _).alloc (Nat.le_refl _) _)
section
variable {B:Nat} {W w w':World} {g a p d n:Nat} {o:Int} {S S':Sh.Sf} {F:Nat->Prop} {P:Cs}
end
structure Read (S S':Sh.Sf):Prop where
 disks:S'.disks=S.disks
 sectors:S'.sectors=S.sectors
 off:S'.off=S.off
 left:S'.left=S.left
section
variable {B:Nat} {W w w':World} {g a p d n:Nat} {o:Int} {S S':Sh.Sf} {F:Nat->Prop} {P:Cs}
end
set_option maxRecDepth 20000 in
theorem rNoughts_any (ad:Addr) (c:Nat) (b:Sh.Bs) (w:World) (hr:Reads w w.heap.size (some ad) 128 (bts b)) :
  Calls Tryz.prog 42 #[.slice (some ad) 128 c] w fun e w'=>e=.returned (.bool (decide (b=Sh.noughts)))/\w=w':=by
 have hl:=hr.len
 have he:=arr_eql w hl (show Sh.noughts.length=128 from by simp [Sh.noughts])
 have hld:=load_arr hr
 have hz:=zero_bytes
 have hat:=run_arrayAt ad c
 have hzn:=zcB_ne
 rw [<- zcB_bts] at he
 have hq:(b == Sh.noughts)=decide (b=Sh.noughts):=by rw [Bool.eq_iff_iff,beq_iff_eq,decide_eq_true_iff]
 rw [hq] at he
 generalize decide (b=Sh.noughts)=q at *
 clear hq hr hl
 generalize (bts b).toArray=X at *
 go_enter Tryz.func42,Tryz.ntmps42
 go_wp2_with (refine loadKnown (o:=⟨some 5,_,_,_,_,_⟩) (by rfl) 124 (.tmp 4) rfl ad rfl (.agg X) hld ?_)
 go_ret
 exact ⟨rfl,rfl⟩
theorem below_only {w w':World} {F:Nat->Prop} (h:Below w.heap.size w w'):Sh.Only F w w':=⟨h.os,h.tape,h.output,h.size,fun k hk _=>h.block k hk⟩
section
variable {B:Nat} {W w:World} {a p d:Nat} {o:Int} {S:Sh.Sf} {F:Nat->Prop}
set_option maxRecDepth 20000 in
theorem nought_calm (h:Dv B W w a p d o S F) (hT:Tabs W) (hTB:max 0 1+1<=B) (hc:Calm S d) (k:Nat) (hk:k<blk S.sectors) (hg:goodAt S d k=true) (hv:V S d (dataOf k)=Sh.noughts) (g:Option Addr) :
  Calls Tryz.prog 96 #[.agg #[.pointer (some ⟨a,0,none⟩),.pointer g],.int .i64 k] w fun e w'=>e=.returned (.int .i64 0)/\Dv B W w' a p d o (Looked S d) F/\Sh.Only F w w':=by
 have hb:Below w.heap.size w (w.alloc (.cells #[.pointer (some ⟨a,0,none⟩),.pointer g] 98)):=(Below.refl _ _).alloc (Nat.le_refl _) _
 have HRD:=hid (read_calm (h.grown hb) hT hTB hc k hk hg)
 have HB:=hid hb
 rw [hv] at HRD
 clear h hb hv hg hk hT hTB hc
 go_enter Tryz.func96,Tryz.ntmps96
 go_wp2_with fail
 refine HRD.out.mono ?_
 rintro e w1 ⟨A,c,rfl,y,D,O⟩
 obtain ⟨ad,rfl⟩:=bytes_some y
 have HIS:=hid (rNoughts_any ad c Sh.noughts w1 y.1)
 rw [decide_eq_true rfl] at HIS
 have HO:=hid ((below_only (F:=F) HB.out).trans O (fun _ e=>.inl e))
 clear y O
 go_wp2_with (go_at_call 42;refine HIS.out.mono ?_;rintro e w' ⟨rfl,rfl⟩)
 go_ret
 exact ⟨rfl,D,HO.out⟩
end
end Go.Proofs.YtgebkmpmnjhceaaGreatDoor.U
