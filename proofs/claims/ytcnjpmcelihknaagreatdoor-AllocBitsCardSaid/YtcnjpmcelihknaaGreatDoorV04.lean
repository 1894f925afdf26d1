/-
  What the statement's proof rests on, part 4.
  Conditions: each theorem's own.
-/
import Derived.Test.YtcnjpmcelihknaaGreatDoorRows
import Derived.WalkKit
import Derived.WalkSpells
import Derived.WalkLawsBesides
import Derived.Below
import Derived.Laws.OwnMore
import Derived.Laws.BitsAllLaws
import Derived.Deep.AppendLies
import Derived.Deep.Draws
import Derived.Deep.QuietTactic
import Derived.BigQuiet
import Derived.Lib.Hide
import Derived.IntWalk
import Derived.Maps.AppendAt
import Derived.RegionTactic
import Derived.Deep.RegionLaw
import Derived.BigRegion
import Derived.OwnWalk
open Go.Lib (hid)
namespace Go.Proofs.YtcnjpmcelihknaaGreatDoor.Nums
def bit1 (c:Nat):Nat:=(c / 2) ^^^ (if c%2=1 then 2197175160 else 0)
def bits8 (c:Nat):Nat:=bit1 (bit1 (bit1 (bit1 (bit1 (bit1 (bit1 (bit1 c)))))))
def lowT:List Nat:=[0,4067132163,3778769143,324072436,3348797215,904991772,648144872,3570033899,2329499855,2024987596,1809983544,2575936315,1296289744,3207089363,2893594407,1578318884]
def highT:List Nat:=[0,274646895,549293790,820201905,1098587580,1361435347,1640403810,1905808397,2197175160,2460548119,2722870694,2987750089,3280807620,3553878443,3811616794,4084100981]
def low (i:Nat):Nat:=lowT.getD i 0
def high (i:Nat):Nat:=highT.getD i 0
def step (s x:Nat):Nat:=((s / 256) ^^^ low ((x ^^^ (s%256))%16)) ^^^ high ((x ^^^ (s%256)) / 16)
theorem div2_xor (a b:Nat):(a ^^^ b) / 2=(a / 2) ^^^ (b / 2):=by
 have h:=Nat.shiftRight_xor_distrib (a:=a) (b:=b) (i:=1)
 simpa [Nat.shiftRight_eq_div_pow] using h
theorem mod2_xor (a b:Nat):(a ^^^ b)%2=(a%2+b%2)%2:=by
 have h:=Nat.testBit_xor a b 0
 simp only [Nat.testBit_zero] at h
 have ha:a%2=0\/a%2=1:=by omega
 have hb:b%2=0\/b%2=1:=by omega
 have hc:(a ^^^ b)%2=0\/(a ^^^ b)%2=1:=by omega
 rcases ha with ha | ha<;>rcases hb with hb | hb<;>rcases hc with hc | hc<;>simp [ha,hb,hc] at h ⊢
theorem xor_swap (a b c d:Nat):(a ^^^ b) ^^^ (c ^^^ d)=(a ^^^ c) ^^^ (b ^^^ d):=by
 rw [Nat.xor_assoc,<- Nat.xor_assoc b c d,Nat.xor_comm b c,Nat.xor_assoc c b d,<- Nat.xor_assoc]
theorem bit1_xor (a b:Nat):bit1 (a ^^^ b)=bit1 a ^^^ bit1 b:=by
 unfold bit1
 rw [div2_xor,mod2_xor,xor_swap]
 congr 1
 have ha:a%2=0\/a%2=1:=by omega
 have hb:b%2=0\/b%2=1:=by omega
 rcases ha with ha | ha<;>rcases hb with hb | hb<;>simp [ha,hb]
theorem bits8_xor (a b:Nat):bits8 (a ^^^ b)=bits8 a ^^^ bits8 b:=by unfold bits8;simp only [bit1_xor]
theorem bit1_double (h:Nat):bit1 (2*h)=h:=by
 unfold bit1
 have h1:2*h%2=0:=by omega
 have h2:2*h / 2=h:=by omega
 rw [h1,h2];simp
theorem bits8_high (h:Nat):bits8 (256*h)=h:=by
 have e:256*h=2*(2*(2*(2*(2*(2*(2*(2*h))))))):=by omega
 rw [e]
 unfold bits8
 simp only [bit1_double]
set_option maxRecDepth 100000 in
theorem bits8_table:∀y:Fin 256,bits8 y.val=low (y.val%16) ^^^ high (y.val / 16):=by decide +kernel
theorem xor_lt_256 {a b:Nat} (ha:a<256) (hb:b<256):a ^^^ b<256:=Nat.xor_lt_two_pow (n:=8) ha hb
theorem xor_lt_32 {a b:Nat} (ha:a<4294967296) (hb:b<4294967296):a ^^^ b<4294967296:=Nat.xor_lt_two_pow (n:=32) ha hb
theorem split_256 (s:Nat):s=(256*(s / 256)) ^^^ (s%256):=by
 have h:=Nat.two_pow_add_eq_or_of_lt (i:=8) (b:=s%256) (by omega) (s / 256)
 apply Nat.eq_of_testBit_eq
 intro i
 have hs:s=2 ^ 8*(s / 256)+s%256:=by omega
 have e1:s.testBit i=(2 ^ 8*(s / 256) ||| s%256).testBit i:=by rw [<- h,<- hs]
 rw [e1,Nat.testBit_or,Nat.testBit_xor]
 show ((256*(s / 256)).testBit i || (s%256).testBit i)=_
 by_cases hi:i<8
 ·have:(256*(s / 256)).testBit i=false:=by
   have:=Nat.testBit_two_pow_mul (i:=8) (a:=s / 256) (j:=i)
   simp only [show (2:Nat) ^ 8=256 from rfl] at this
   rw [this];simp;omega
  simp [this]
 ·have:(s%256).testBit i=false:=Nat.testBit_lt_two_pow (Nat.lt_of_lt_of_le (Nat.mod_lt s (by decide)) (by
   have:2 ^ 8<=2 ^ i:=Nat.pow_le_pow_right (by omega) (by omega)
   simpa using this))
  simp [this]
theorem step_eq (s x:Nat) (hx:x<256):step s x=bits8 (s ^^^ x):=by
 have hy:x ^^^ (s%256)<256:=xor_lt_256 hx (Nat.mod_lt _ (by decide))
 have e:s ^^^ x=(256*(s / 256)) ^^^ (x ^^^ (s%256)):=by
  conv=>lhs;rw [split_256 s]
  rw [Nat.xor_assoc,Nat.xor_comm (s%256) x]
 rw [e,bits8_xor,bits8_high]
 have t:=bits8_table ⟨x ^^^ (s%256),hy⟩
 simp only at t
 rw [t]
 unfold step
 rw [Nat.xor_assoc]
theorem bit1_lt {c:Nat} (h:c<4294967296):bit1 c<4294967296:=by
 unfold bit1
 refine xor_lt_32 (by omega) ?_
 split<;>decide
theorem bits8_lt {c:Nat} (h:c<4294967296):bits8 c<4294967296:=by
 unfold bits8
 exact bit1_lt (bit1_lt (bit1_lt (bit1_lt (bit1_lt (bit1_lt (bit1_lt (bit1_lt h)))))))
theorem bit1_inj {a b:Nat} (ha:a<4294967296) (hb:b<4294967296) (h:bit1 a=bit1 b):a=b:=by
 have top:∀c,c<4294967296->(bit1 c).testBit 31=decide (c%2=1):=by
  intro c hc
  unfold bit1
  rw [Nat.testBit_xor]
  have h1:(c / 2).testBit 31=false:=Nat.testBit_lt_two_pow (by simp;omega)
  rw [h1]
  have hp:(2197175160:Nat).testBit 31=true:=by decide
  by_cases hm:c%2=1<;>simp [hm,hp]
 have h2:decide (a%2=1)=decide (b%2=1):=by rw [<- top a ha,<- top b hb,h]
 have h3:a%2=b%2:=by
  have ha2:a%2=0\/a%2=1:=by omega
  have hb2:b%2=0\/b%2=1:=by omega
  rcases ha2 with e1 | e1<;>rcases hb2 with e2 | e2<;>simp [e1,e2] at h2 ⊢
 unfold bit1 at h
 rw [h3] at h
 have h4:a / 2=b / 2:=by
  have:=congrArg (· ^^^ (if b%2=1 then 2197175160 else 0)) h
  simpa [Nat.xor_assoc] using this
 omega
theorem bits8_inj {a b:Nat} (ha:a<4294967296) (hb:b<4294967296) (h:bits8 a=bits8 b):a=b:=by
 unfold bits8 at h
 have l1:=bit1_lt ha;have l2:=bit1_lt l1;have l3:=bit1_lt l2;have l4:=bit1_lt l3;have l5:=bit1_lt l4;have l6:=bit1_lt l5;have l7:=bit1_lt l6
 have m1:=bit1_lt hb;have m2:=bit1_lt m1;have m3:=bit1_lt m2;have m4:=bit1_lt m3;have m5:=bit1_lt m4;have m6:=bit1_lt m5;have m7:=bit1_lt m6
 exact bit1_inj ha hb (bit1_inj l1 m1 (bit1_inj l2 m2 (bit1_inj l3 m3 (bit1_inj l4 m4 (bit1_inj l5 m5 (bit1_inj l6 m6 (bit1_inj l7 m7 h)))))))
theorem xor_cancel_left {a b c:Nat} (h:a ^^^ b=a ^^^ c):b=c:=by
 have:=congrArg (a ^^^ ·) h
 simpa [<- Nat.xor_assoc] using this
theorem xor_cancel_right {a b c:Nat} (h:a ^^^ c=b ^^^ c):a=b:=by
 have:=congrArg (· ^^^ c) h
 simpa [Nat.xor_assoc] using this
def run (s:Nat) (l:List Nat):Nat:=l.foldl step s
theorem run_nil (s:Nat):run s []=s:=rfl
theorem run_cons (s x:Nat) (l:List Nat):run s (x :: l)=run (step s x) l:=rfl
theorem run_append (s:Nat) (l m:List Nat):run s (l++m)=run (run s l) m:=by unfold run;rw [List.foldl_append]
theorem step_lt {s x:Nat} (hs:s<4294967296) (hx:x<256):step s x<4294967296:=by
 rw [step_eq s x hx];exact bits8_lt (xor_lt_32 hs (by omega))
theorem run_lt {l:List Nat} (hl:∀x∈l,x<256) {s:Nat} (hs:s<4294967296):run s l<4294967296:=by
 induction l generalizing s with
 | nil=>exact hs
 | cons x l ih=>exact ih (fun y hy=>hl y (List.mem_cons_of_mem _ hy)) (step_lt hs (hl x (List.mem_cons_self ..)))
theorem run_inj {l:List Nat} (hl:∀x∈l,x<256) {s t:Nat} (hs:s<4294967296) (ht:t<4294967296) (h:run s l=run t l):s=t:=by
 induction l generalizing s t with
 | nil=>exact h
 | cons x l ih =>
  have hx:=hl x (List.mem_cons_self ..)
  have e:=ih (fun y hy=>hl y (List.mem_cons_of_mem _ hy)) (step_lt hs hx) (step_lt ht hx) h
  rw [step_eq s x hx,step_eq t x hx] at e
  exact xor_cancel_right (bits8_inj (xor_lt_32 hs (by omega)) (xor_lt_32 ht (by omega)) e)
theorem run_take_succ (s:Nat) (l:List Nat) (k:Nat) (hk:k<l.length):run s (l.take (k+1))=step (run s (l.take k)) (l.getD k 0):=by
 rw [List.take_succ_eq_append_getElem hk,run_append]
 simp [run_cons,run_nil,List.getD,List.getElem?_eq_getElem hk]
theorem run_set_ne {l:List Nat} (hl:∀x∈l,x<256) {s:Nat} (hs:s<4294967296) (k:Nat) (hk:k<l.length) (v:Nat) (hv:v<256) (hne:v≠l.getD k 0):run s l≠run s (l.set k v):=by
 induction l generalizing s k with
 | nil=>simp at hk
 | cons x l ih =>
  have hx:=hl x (List.mem_cons_self ..)
  have hl':∀y∈l,y<256:=fun y hy=>hl y (List.mem_cons_of_mem _ hy)
  cases k with
  | zero =>
   intro h
   rw [List.set_cons_zero,run_cons,run_cons] at h
   have e:=run_inj hl' (step_lt hs hx) (step_lt hs hv) h
   rw [step_eq s x hx,step_eq s v hv] at e
   have:=xor_cancel_left (bits8_inj (xor_lt_32 hs (by omega)) (xor_lt_32 hs (by omega)) e)
   exact hne (by simpa using this.symm)
  | succ k =>
   rw [List.set_cons_succ,run_cons,run_cons]
   exact ih hl' (step_lt hs hx) k (by simpa using hk) (by simpa using hne)
def sum (seed:Nat) (l:List Nat):Nat:=run (seed ^^^ 4294967295) l ^^^ 4294967295
theorem sum_lt {l:List Nat} (hl:∀x∈l,x<256) {s:Nat} (hs:s<4294967296):sum s l<4294967296:=xor_lt_32 (run_lt hl (xor_lt_32 hs (by decide))) (by decide)
theorem sum_set_ne {l:List Nat} (hl:∀x∈l,x<256) {s:Nat} (hs:s<4294967296) (k:Nat) (hk:k<l.length) (v:Nat) (hv:v<256) (hne:v≠l.getD k 0):sum s l≠sum s (l.set k v) :=
 fun h=>run_set_ne hl (xor_lt_32 hs (by decide)) k hk v hv hne (xor_cancel_right h)
end Go.Proofs.YtcnjpmcelihknaaGreatDoor.Nums
namespace Go.Proofs.YtcnjpmcelihknaaGreatDoor
open Go.RowKit
theorem block_of_add (a:Addr) (n:Nat):(a.add n).block=a.block:=by unfold Addr.add;split<;>rfl
def Reads (w:World) (B:Nat) (A:Option Addr) (n:Nat) (xs:List Value):Prop :=
 xs.length=n/\(0<n->∃ad,A=some ad/\ad.block<B/\∀j u,xs[j]?=some u->w.cell? (ad.add j)=some u)
section
variable {w w':World} {B B' n:Nat} {A:Option Addr} {xs:List Value}
theorem Reads.none_:Reads w B A 0 []:=⟨rfl,fun h=>absurd h (by omega)⟩
theorem Reads.at_ {k:Nat} (h:Reads w B A n xs) (hk:k<n):∃ad u,A=some ad/\ad.block<B/\xs[k]?=some u/\w.cell? (ad.add k)=some u:=by
 obtain ⟨ad,e,hb,hc⟩:=h.2 (by omega)
 have hl:k<xs.length:=by have:=h.1;omega
 exact ⟨ad,xs[k],e,hb,List.getElem?_eq_getElem hl,hc k _ (List.getElem?_eq_getElem hl)⟩
theorem Reads.keep (h:Reads w B A n xs) (hk:∀p:Addr,p.block<B->w'.cell? p=w.cell? p):Reads w' B A n xs :=
 ⟨h.1,fun hn=>by
  obtain ⟨ad,e,hb,hc⟩:=h.2 hn
  exact ⟨ad,e,hb,fun j u hu=>(hk _ (by rw [block_of_add];exact hb)).trans (hc j u hu)⟩⟩
theorem Reads.more (h:Reads w B A n xs) (hB:B<=B'):Reads w B' A n xs :=
 ⟨h.1,fun hn=>by
  obtain ⟨ad,e,hb,hc⟩:=h.2 hn
  exact ⟨ad,e,by omega,hc⟩⟩
theorem Reads.below (h:Reads w B A n xs) (hb:Below B w w'):Reads w' B A n xs:=h.keep fun _ hp=>hb.cell hp
theorem Reads.alloc (h:Reads w B A n xs) (hB:B<=w.heap.size) (o:Obj):Reads (w.alloc o) B A n xs:=h.keep fun p hp=>World.cell?_alloc_lt w o p (by omega)
theorem Reads.of_own {base:Nat} {e:TypeId} {c:Nat} (h:w.ownsRow base e 1 (.slice A n c) n xs):Reads w w.heap.size A n xs:=by
 refine ⟨by simpa using h.1,fun hn=>?_⟩
 obtain ⟨g,cap,hv,_,hlt⟩:=h.form hn
 have hA:A=some ⟨g,0,none⟩:=by injection hv
 subst hA
 exact ⟨_,rfl,hlt,h.cells (g:=g) rfl⟩
end
def bts (l:List Nat):List Value:=l.map fun (x:Nat)=>Value.int .u8 (x:Int)
def Small (l:List Nat):Prop:=∀x∈l,x<256
theorem bts_length (l:List Nat):(bts l).length=l.length:=by simp [bts]
theorem bts_get (l:List Nat) (k:Nat) (h:k<l.length):(bts l)[k]?=some (.int .u8 ((l.getD k 0:Nat):Int)):=by
 simp [bts,List.getElem?_eq_getElem h]
theorem bts_append (l m:List Nat):bts (l++m)=bts l++bts m:=by simp [bts]
theorem bts_one (l:List Nat):∀u∈bts l,u.oneCell'=true:=by
 intro u hu
 simp only [bts,List.mem_map] at hu
 obtain ⟨x,_,rfl⟩:=hu
 rfl
theorem Small.get {l:List Nat} (h:Small l) (k:Nat):l.getD k 0<256:=by
 by_cases hk:k<l.length
 ·have e:l.getD k 0=l[k]:=by simp [List.getD,List.getElem?_eq_getElem hk]
  rw [e];exact h _ (List.getElem_mem hk)
 ·have e:l.getD k 0=0:=by simp [List.getD,List.getElem?_eq_none (Nat.le_of_not_lt hk)]
  rw [e];decide
theorem Reads.byte {w:World} {B n:Nat} {A:Option Addr} {l:List Nat} {k:Nat} (h:Reads w B A n (bts l)) (hk:k<n) :
  ∃ad,A=some ad/\ad.block<B/\w.cell? (ad.add k)=some (.int .u8 ((l.getD k 0:Nat):Int)):=by
 obtain ⟨ad,u,e,hb,hx,hc⟩:=h.at_ hk
 rw [bts_get l k (by rw [<- bts_length l,h.1];exact hk)] at hx
 exact ⟨ad,e,hb,by rw [hc,<- hx]⟩
theorem Reads.len {w:World} {B n:Nat} {A:Option Addr} {l:List Nat} (h:Reads w B A n (bts l)):l.length=n:=by rw [<- h.1,bts_length]
def Tabs (w:World):Prop :=
 (∀i,i<16->w.cell? ⟨0,i,none⟩=some (.int .u32 ((Nums.low i:Nat):Int))) /\
 (∀i,i<16->w.cell? ⟨1,i,none⟩=some (.int .u32 ((Nums.high i:Nat):Int)))
theorem Tabs.drewN {w:World} (h:Tabs w) (k:Nat):Tabs (w.drewN k):=h
theorem Tabs.keep {w w':World} (h:Tabs w) (hk:∀p:Addr,p.block<max 0 1+1->w'.cell? p=w.cell? p):Tabs w' :=
 ⟨fun i hi=>(hk _ (by simp)).trans (h.1 i hi),fun i hi=>(hk _ (by simp)).trans (h.2 i hi)⟩
theorem Tabs.size {w:World} (h:Tabs w):max 0 1+1<=w.heap.size:=by
 have h1:=h.2 0 (by decide)
 have h0:=h.1 0 (by decide)
 have hlt1:=World.block_lt_of_cell? w _ h1
 have hlt0:=World.block_lt_of_cell? w _ h0
 simp at hlt1 hlt0
 have hne:0+1=1\/True:=.inr trivial
 omega
theorem Tabs.below {w w':World} {B:Nat} (h:Tabs w) (hB:max 0 1+1<=B) (hb:Below B w w'):Tabs w':=h.keep fun p hp=>hb.cell (by omega)
theorem info_u8:(Tryz.prog.info? 5).map (fun i=>(i.zero,i.size,i.bytes))=some (some (.int .u8 0),1,1):=by kernel_rfl
theorem info_bool:(Tryz.prog.info? 4).map (fun i=>(i.zero,i.size,i.bytes))=some (some (.bool false),1,1):=by kernel_rfl
section
variable {P:Program}
theorem wp_append1 {wr:World} {o:Oper} {a:Act} {K:Act->World->Prop} {Q:Exit->Act->World->Prop} (s x:Operand) (t:TypeId)
  (ho:o.op=.call { callee:=.builtin .append,args:=#[s,x],argTypes:=#[t,t] })
  (base:Nat) (e:TypeId) (i:TypeInfo) (z:Value) (bytes:Nat) (ht:P.underlying t=some (.slice e)) (hi:P.info? e=some i) (hz:i.zero=some z)
  (hsize:i.size=1) (hby:i.bytes=bytes) (hzs:z.cells.size=1)
  (v:Value) (k:Nat) (xs:List Value) (hs:a.eval s=v) (u:Value) (hx:a.eval x=.slice (some ⟨wr.heap.size,0,none⟩) 1 1) (hu:u.oneCell'=true)
  (hown:wr.ownsRow base e 1 v k xs) (hk:k+1<=maxLen) (hkb:(k+1)*bytes<=140737488355328) (w0:World) (hbel:Below base w0 wr) (hbase:base<=wr.heap.size)
  (h:∀v' w',w'.ownsRow base e 1 v' (k+1) (xs++[u])->Below base w0 w'->K (a.put o.dst v') w') :
  o.wp P a (wr.alloc (.cells #[u] e)) K Q:=by
 have hsz:(wr.alloc (.cells #[u] e)).heap.size=wr.heap.size+1:=by simp
 refine wp_append_own _ s x t ho base e i z 1 bytes ht hi hz hsize hby hzs (by decide) v k xs hs (hown.alloc _) ⟨wr.heap.size,0,none⟩ 1 1 [u] hx rfl (cell_one_new _ _ _) (by intro y hy;simp at hy;subst hy;exact hu) hk hkb (by omega) ?_
 intro v' w' hown' hg _
 refine h v' w' hown' ((hbel.alloc hbase _).grown hg (by omega) ?_)
 intro g hg2
 exact (hown.lt g hg2).1
theorem append1 {wr:World} {ops:Array Oper} {rest:List Oper} {o:Oper} {a:Act} {Q:Exit->Act->World->Prop} (hgd:o.guard=none) (s x:Operand) (t:TypeId)
  (ho:o.op=.call { callee:=.builtin .append,args:=#[s,x],argTypes:=#[t,t] })
  (base:Nat) (e:TypeId) (i:TypeInfo) (z:Value) (bytes:Nat) (ht:P.underlying t=some (.slice e)) (hi:P.info? e=some i) (hz:i.zero=some z)
  (hsize:i.size=1) (hby:i.bytes=bytes) (hzs:z.cells.size=1)
  (v:Value) (k:Nat) (xs:List Value) (hs:a.eval s=v) (u:Value) (hx:a.eval x=.slice (some ⟨wr.heap.size,0,none⟩) 1 1) (hu:u.oneCell'=true)
  (hown:wr.ownsRow base e 1 v k xs) (hk:k+1<=maxLen) (hkb:(k+1)*bytes<=140737488355328) (w0:World) (hbel:Below base w0 wr) (hbase:base<=wr.heap.size)
  (h:∀v' w',w'.ownsRow base e 1 v' (k+1) (xs++[u])->Below base w0 w'->wpList P ops Q rest (a.put o.dst v') w') :
  wpList P ops Q (o :: rest) a (wr.alloc (.cells #[u] e)) :=
 wpList_plain hgd fun _ hK=>wp_append1 s x t ho base e i z bytes ht hi hz hsize hby hzs v k xs hs u hx hu hown hk hkb w0 hbel hbase fun v' w' h2 h3=>hK _ _ (h v' w' h2 h3)
variable (w:World)
theorem run_append_of_nil (base:Nat) (t ty e:TypeId) (i:TypeInfo) (size:Nat) (ht:P.underlying t=some (.slice e)) (hi:P.info? e=some i)
  (v:Value) (n:Nat) (xs:List Value) (hown:w.ownsRow base e size v n xs) (c:Nat):(Builtin.append_ #[t,t] ty #[v,.slice none 0 c]).run P w=.ok v w:=by
 rcases hown.2 with ⟨rfl,rfl⟩ | ⟨g,cap,cur,rfl,_,_,hnc,_⟩
 ·simp [Builtin.append_,run_underlying ht,sizeOf,typeInfo,hi,Builtin.lenOf,Builtin.firstCells]
 ·simp [Builtin.append_,run_underlying ht,sizeOf,typeInfo,hi,Builtin.lenOf,Builtin.firstCells,hnc,storeCells]
theorem wp_appendAll {o:Oper} {a:Act} {K:Act->World->Prop} {Q:Exit->Act->World->Prop} (s x:Operand) (t:TypeId)
  (ho:o.op=.call { callee:=.builtin .append,args:=#[s,x],argTypes:=#[t,t] })
  (base:Nat) (e:TypeId) (i:TypeInfo) (z:Value) (bytes:Nat) (ht:P.underlying t=some (.slice e)) (hi:P.info? e=some i) (hz:i.zero=some z)
  (hsize:i.size=1) (hby:i.bytes=bytes) (hzs:z.cells.size=1)
  (v:Value) (n:Nat) (xs:List Value) (hs:a.eval s=v) (hown:w.ownsRow base e 1 v n xs)
  (B:Nat) (A:Option Addr) (m c:Nat) (news:List Value) (hx:a.eval x=.slice A m c) (hr:Reads w B A m news) (h1:∀u∈news,u.oneCell'=true)
  (h63:n+m<=maxLen) (hbytes:(n+m)*bytes<=140737488355328) (w0:World) (hbel:Below base w0 w) (hbase:base<=w.heap.size)
  (h:∀v' w',w'.ownsRow base e 1 v' (n+m) (xs++news)->w.grownBy w' v.ownBlock->Below base w0 w'->K (a.put o.dst v') w'):o.wp P a w K Q:=by
 have hrow:∀g,v.ownBlock=some g->base<=g:=fun g hg=>(hown.lt g hg).1
 rcases A with _ | ad
 ·have hm:m=0:=by
   rcases Nat.eq_zero_or_pos m with h0 | h0
   ·exact h0
   ·obtain ⟨ad,h,_⟩:=hr.2 h0
    cases h
  subst hm
  have hn:news=[]:=List.eq_nil_of_length_eq_zero (by simpa using hr.1)
  subst hn
  unfold Oper.wp execOp
  have hrun:=run_append_of_nil (P:=P) w base t o.type e i 1 ht hi v n xs hown c
  simp only [ho,resolve,invoke,builtin,Sem.run_bind,Sem.run_pure,Result.andThen_ok,List.map_toArray,List.map_cons,List.map_nil,hs,hx,hrun]
  exact h v w (by simpa using hown) (World.grownBy.refl w _) hbel
 ·have hcells:∀j u,news[j]?=some u->w.cell? (ad.add j)=some u:=by
   intro j u hu
   rcases Nat.eq_zero_or_pos m with h0 | h0
   ·subst h0
    have hn:news=[]:=List.eq_nil_of_length_eq_zero (by simpa using hr.1)
    subst hn
    simp at hu
   ·obtain ⟨ad',h,_,hc⟩:=hr.2 h0
    injection h with h
    subst h
    exact hc j u hu
  refine wp_append_own w s x t ho base e i z 1 bytes ht hi hz hsize hby hzs (by decide) v n xs hs hown ad m c news hx (by simpa using hr.1) hcells h1 h63 hbytes hbase ?_
  intro v' w' hown' hg _
  exact h v' w' hown' hg (hbel.grown hg hbase hrow)
theorem appendAll {ops:Array Oper} {rest:List Oper} {o:Oper} {a:Act} {Q:Exit->Act->World->Prop} (hgd:o.guard=none) (s x:Operand) (t:TypeId)
  (ho:o.op=.call { callee:=.builtin .append,args:=#[s,x],argTypes:=#[t,t] })
  (base:Nat) (e:TypeId) (i:TypeInfo) (z:Value) (bytes:Nat) (ht:P.underlying t=some (.slice e)) (hi:P.info? e=some i) (hz:i.zero=some z)
  (hsize:i.size=1) (hby:i.bytes=bytes) (hzs:z.cells.size=1)
  (v:Value) (n:Nat) (xs:List Value) (hs:a.eval s=v) (hown:w.ownsRow base e 1 v n xs)
  (B:Nat) (A:Option Addr) (m c:Nat) (news:List Value) (hx:a.eval x=.slice A m c) (hr:Reads w B A m news) (h1:∀u∈news,u.oneCell'=true)
  (h63:n+m<=maxLen) (hbytes:(n+m)*bytes<=140737488355328) (w0:World) (hbel:Below base w0 w) (hbase:base<=w.heap.size)
  (h:∀v' w',w'.ownsRow base e 1 v' (n+m) (xs++news)->w.grownBy w' v.ownBlock->Below base w0 w'->wpList P ops Q rest (a.put o.dst v') w'):wpList P ops Q (o :: rest) a w :=
 wpList_plain hgd fun _ hK=>wp_appendAll w s x t ho base e i z bytes ht hi hz hsize hby hzs v n xs hs hown B A m c news hx hr h1 h63 hbytes w0 hbel hbase fun v' w' h2 h3 h4=>hK _ _ (h v' w' h2 h3 h4)
end
theorem own_shape {w:World} {base:Nat} {e:TypeId} {v:Value} {n:Nat} {xs:List Value} (h:w.ownsRow base e 1 v n xs) :
  ∃A c,v=.slice A n c/\Reads w w.heap.size A n xs/\n<=c/\c<=maxLen:=by
 have hl:xs.length=n:=by simpa using h.1
 have h0:=h
 rcases h.2 with ⟨rfl,rfl⟩ | ⟨g,cap,cur,rfl,_,_,hnc,hcm,_⟩
 ·exact ⟨none,0,rfl,⟨hl,fun hn=>absurd hn (by omega)⟩,Nat.le_refl _,by unfold maxLen;omega⟩
 ·exact ⟨_,cap,rfl,Reads.of_own h0,hnc,hcm⟩
def tabTo (f:Nat->Nat) (n k:Nat):List Nat:=(List.range n).map fun i=>if i<k then f i else 0
def tab (f:Nat->Nat) (n:Nat):List Nat:=(List.range n).map f
theorem tabTo_length (f:Nat->Nat) (n k:Nat):(tabTo f n k).length=n:=by simp [tabTo]
theorem tab_length (f:Nat->Nat) (n:Nat):(tab f n).length=n:=by simp [tab]
theorem tabTo_zero (f:Nat->Nat) (n:Nat):bts (tabTo f n 0)=List.replicate n (.int .u8 0):=by
 apply List.ext_getElem?
 intro i
 by_cases h:i<n
 ·simp [bts,tabTo,h]
 ·simp [bts,tabTo,h]
theorem made_zero (f:Nat->Nat) (n:Nat):(madeCells (Value.int .u8 0).cells (n*1)).toList=bts (tabTo f n 0):=by
 rw [tabTo_zero,Nat.mul_one];exact toList_madeCells_one _ _
theorem tabTo_all (f:Nat->Nat) (n:Nat):tabTo f n n=tab f n:=by
 apply List.ext_getElem?
 intro i
 by_cases h:i<n
 ·simp [tab,tabTo,h]
 ·simp [tab,tabTo,h]
theorem tabTo_succ (f:Nat->Nat) (n k:Nat):(bts (tabTo f n k)).set k (.int .u8 ((f k:Nat):Int))=bts (tabTo f n (k+1)):=by
 apply List.ext_getElem?
 intro i
 rw [List.getElem?_set]
 by_cases h:i<n
 ·by_cases hk:k=i
  ·subst hk
   simp [bts,tabTo,h]
  ·by_cases hi:i<k
   ·simp [bts,tabTo,h,hk,hi,show i<k+1 by omega]
   ·simp [bts,tabTo,h,hk,hi,show ¬i<k+1 by omega]
 ·by_cases hk:k=i
  ·simp [bts,tabTo,h,hk]
  ·simp [bts,tabTo,h,hk]
theorem tab_get (f:Nat->Nat) (n k:Nat) (h:k<n):(tab f n).getD k 0=f k:=by simp [tab,List.getD,h]
theorem tab_small {f:Nat->Nat} {n:Nat} (h:∀i,i<n->f i<256):Small (tab f n):=by
 intro x hx
 simp only [tab,List.mem_map,List.mem_range] at hx
 obtain ⟨i,hi,rfl⟩:=hx
 exact h i hi
def Drew (v:Value) (w:World) (e:Ending) (w':World):Prop:=e=.returned v/\∃k,w'=w.drewN k
theorem xor_max (s:Nat) (hs:s<4294967296):bits .xor .u32 IntKind.u32.max (s:Int)=((s ^^^ 4294967295:Nat):Int):=by
 rw [Nat.xor_comm];exact u32_xor_nat 4294967295 s (by omega) hs
theorem low_lt (i:Nat):Nums.low i<4294967296:=by
 by_cases h:i<16
 ·have:∀j:Fin 16,Nums.low j.val<4294967296:=by decide
  exact this ⟨i,h⟩
 ·have e:Nums.low i=0:=by unfold Nums.low;rw [List.getD,List.getElem?_eq_none (by simp [Nums.lowT];omega)];rfl
  rw [e];decide
theorem high_lt (i:Nat):Nums.high i<4294967296:=by
 by_cases h:i<16
 ·have:∀j:Fin 16,Nums.high j.val<4294967296:=by decide
  exact this ⟨i,h⟩
 ·have e:Nums.high i=0:=by unfold Nums.high;rw [List.getD,List.getElem?_eq_none (by simp [Nums.highT];omega)];rfl
  rw [e];decide
set_option maxHeartbeats 400000 in
theorem crc_any (A:Option Addr) (n c B:Nat) (l:List Nat) (s:Nat) (w:World) (hs:s<4294967296) (hl:Small l) (hr:Reads w B A n (bts l)) (hn:n<=maxLen) (hT:Tabs w) :
  Calls Tryz.prog 113 #[.int .u32 s,.slice A n c] w (Drew (.int .u32 (Nums.sum s l)) w):=by
 unfold maxLen at hn
 have hlen:=hr.len
 have e0:=xor_max s hs
 have hs0:s ^^^ 4294967295<4294967296:=Nums.xor_lt_32 hs (by decide)
 have hsig:IntKind.u32.signed=false:=rfl
 go_enter Tryz.func113,Tryz.ntmps113
 go_wp2
 go_loopw [5,12] (fun s5 s12 wr=>∃k d:Nat,k<=n/\s12=.int .i64 k/\s5=.int .u32 (Nums.run (s ^^^ 4294967295) (l.take k))/\wr=w.drewN d) (fun _ i _=>n-(intOf i).toNat)
 case atStart=>exact ⟨0,0,Nat.zero_le _,rfl,by simp [Nums.run_nil],rfl⟩
 case round =>
  obtain ⟨k,d,hk,rfl,rfl,rfl⟩:=hrel
  by_cases hlt:k<n
  ·obtain ⟨ad,rfl,hb,hc⟩:=hr.byte hlt
   have hsn:=hid (Nums.run_take_succ (s ^^^ 4294967295) l k (by omega))
   have hS:Nums.run (s ^^^ 4294967295) (l.take k)<4294967296:=Nums.run_lt (fun x hx=>hl x (List.mem_of_mem_take hx)) hs0
   have hx:=hl.get k
   clear e0 hlen
   generalize Nums.run (s ^^^ 4294967295) (l.take k)=S at *
   generalize l.getD k 0=x at *
   have hy:x ^^^ (S%256)<256:=Nums.xor_lt_256 hx (by omega)
   have e1:bits .xor .u8 (x:Int) ((S:Int)%256)=((x ^^^ (S%256):Nat):Int):=by
    have:=u8_xor_nat x (S%256) hx (by omega)
    simpa using this
   go_wp2
   have hst:Hid (Nums.step S x=((S / 256) ^^^ Nums.low ((x ^^^ (S%256))%16)) ^^^ Nums.high ((x ^^^ (S%256)) / 16)):=hid rfl
   clear e1
   generalize x ^^^ S%256=y at *
   have e2:bits .and .u8 (y:Int) 15=((y%16:Nat):Int):=by
    have:=u8_and_nat y 15 hy (by decide)
    rw [Nat.and_two_pow_sub_one_eq_mod (n:=4)] at this
    exact this
   have c1:=hT.1 (y%16) (by omega)
   have c2:=hT.2 (y / 16) (by omega)
   have b1:(((y%16:Nat):Int))<16:=by omega
   have b2:(((y / 16:Nat):Int))<16:=by omega
   have e3:bits .xor .u32 (bits .xor .u32 ((S:Int) / 256) ((Nums.low (y%16):Nat):Int)) ((Nums.high (y / 16):Nat):Int)=((Nums.step S x:Nat):Int):=by
    rw [hst.out]
    have h1:=u32_xor_nat (S / 256) (Nums.low (y%16)) (by omega) (low_lt _)
    have h2:=u32_xor_nat (S / 256 ^^^ Nums.low (y%16)) (Nums.high (y / 16)) (Nums.xor_lt_32 (by omega) (low_lt _)) (high_lt _)
    rw [<- h2,<- h1];rfl
   have E3:=hid e3
   clear e3
   go_quiet (fail)
   rw [E3.out]
   go_wp2
   go_roundw
   case rel=>exact ⟨k+1,d+nq,by omega,by go_num,by rw [hsn.out],rfl⟩
   case measure=>simp [intOf];omega
  ·obtain rfl:k=n:=by omega
   have hS:Nums.run (s ^^^ 4294967295) (l.take k)<4294967296:=Nums.run_lt (fun x hx=>hl x (List.mem_of_mem_take hx)) hs0
   have hfin:Hid (Nums.run (s ^^^ 4294967295) (l.take k) ^^^ 4294967295=Nums.sum s l):=hid (by unfold Nums.sum;rw [List.take_of_length_le (by omega)])
   clear e0 hlen
   generalize Nums.run (s ^^^ 4294967295) (l.take k)=S at *
   have e1:=xor_max S hS
   go_wp2
   go_ret
   have e:=hfin.out
   rw [e]
   exact ⟨rfl,d,rfl⟩
theorem isWidth_yes (n:Int) (w:World) (h1:1<=n) (h2:n<=8) :
  Calls Tryz.prog 173 #[.int .i64 n] w fun e w'=>e=.returned (.bool true)/\w=w':=by
 have h3:¬8<n:=by omega
 go_enter Tryz.func173,Tryz.ntmps173
 go_wp2
 go_ret
 exact ⟨rfl,rfl⟩
def Made (l:List Nat) (w:World) (e:Ending) (w':World):Prop :=
 ∃v,e=.returned (.tuple #[v,.int .i64 0])/\w'.ownsRow w.heap.size 5 1 v l.length (bts l)/\Below w.heap.size w w'
theorem div_big (x m:Nat) (h:2 ^ m<=x):((x:Int) / 2 ^ m != 0)=true:=by
 have hp:0<2 ^ m:=Nat.two_pow_pos m
 have h1:1<=x / 2 ^ m:=(Nat.one_le_div_iff hp).2 h
 have h2:((x:Int) / 2 ^ m)=((x / 2 ^ m:Nat):Int):=by simp
 rw [h2,bne_iff_ne];omega
theorem div_small (x m:Nat) (h:x<2 ^ m):((x:Int) / 2 ^ m != 0)=false:=by
 have h1:x / 2 ^ m=0:=Nat.div_eq_of_lt h
 have h2:((x:Int) / 2 ^ m)=((x / 2 ^ m:Nat):Int):=by simp
 rw [h2,h1];rfl
def putTo (x n k:Nat):List Nat:=(List.range n).map fun i=>if i<k then x / 2 ^ (8*i)%256 else 0
def putL (x n:Nat):List Nat:=(List.range n).map fun i=>x / 2 ^ (8*i)%256
theorem putTo_length (x n k:Nat):(putTo x n k).length=n:=by simp [putTo]
theorem putL_length (x n:Nat):(putL x n).length=n:=by simp [putL]
theorem putTo_zero (x n:Nat):bts (putTo x n 0)=List.replicate n (.int .u8 0):=by
 apply List.ext_getElem?
 intro i
 by_cases h:i<n
 ·simp [bts,putTo,h]
 ·simp [bts,putTo,h]
theorem putTo_all (x n:Nat):putTo x n n=putL x n:=by
 apply List.ext_getElem?
 intro i
 by_cases h:i<n
 ·simp [putL,putTo,h]
 ·simp [putL,putTo,h]
theorem putTo_succ (x n k:Nat):(bts (putTo x n k)).set k (.int .u8 ((x:Int) / 2 ^ (8*k)%256))=bts (putTo x n (k+1)):=by
 have e:((x:Int) / 2 ^ (8*k)%256)=((x / 2 ^ (8*k)%256:Nat):Int):=by simp
 rw [e]
 apply List.ext_getElem?
 intro i
 rw [List.getElem?_set]
 by_cases h:i<n
 ·by_cases hk:k=i
  ·subst hk
   simp [bts,putTo,h]
  ·by_cases hi:i<k
   ·simp [bts,putTo,h,hk,hi,show i<k+1 by omega]
   ·simp [bts,putTo,h,hk,hi,show ¬i<k+1 by omega]
 ·by_cases hk:k=i
  ·simp [bts,putTo,h,hk]
  ·simp [bts,putTo,h,hk]
set_option maxHeartbeats 400000 in
theorem put_ok (x n:Nat) (w:World) (h1:1<=n) (h2:n<=8) (h:x<2 ^ (8*n)) :
  Calls Tryz.prog 112 #[.int .u64 x,.int .i64 n] w (Made (putL x n) w):=by
 obtain ⟨i0,hi,hz0,hz1,hz2⟩:=info_parts info_u8
 have hb:=div_small x (8*n) h
 clear h
 go_enter Tryz.func112,Tryz.ntmps112
 go_wp2_with (first
  | (go_at_call 173;refine (isWidth_yes n _ (by omega) (by omega)).mono ?_;rintro e w' ⟨rfl,rfl⟩)
  | (at_make;refine wpList_make_full _ rfl _ _ 24 rfl w.heap.size 5 i0 (.int .u8 0) 1 Tryz.underlying24 hi hz0 hz1 _ _ _ _ n rfl rfl rfl rfl ?_ ?_ (Nat.le_refl _) ?_))
 ·rw [hz2];omega
 ·unfold maxLen;omega
 intro w0 hown0 hgrow0
 have hbelow0:Below w.heap.size w w0:=(Below.refl _ _).grown hgrow0 (Nat.le_refl _) (fun k h=>by cases h)
 clear hgrow0
 go_wp2
 clear hb hi hz0 hz1 hz2
 rw [toList_madeCells_one,<- putTo_zero x] at hown0
 generalize hgs:w.heap.size=g at *
 have Hgs:=hid hgs
 clear hgs
 go_loopw [21] (fun i wr=>∃k:Nat,k<=n/\i=.int .i64 k/\wr.ownsRow g 5 1 (.slice (some ⟨g,0,none⟩) n n) n (bts (putTo x n k))/\Below g w wr) (fun i _=>n-(intOf i).toNat)
 case atStart=>exact ⟨0,Nat.zero_le _,rfl,hown0,hbelow0⟩
 case round =>
  obtain ⟨k,hk,rfl,hown,hbel⟩:=hrel
  by_cases hlt:k<n
  ·have hst:=(hown.stored k (.int .u8 ((x:Int) / 2 ^ (8*k)%256))).1
   rw [putTo_succ] at hst
   have hbel2:=hbel.setCell (p:=⟨g,k,none⟩) (Nat.le_refl _) (.int .u8 ((x:Int) / 2 ^ (8*k)%256))
   have hfz:=hown.frozenAt k
   have hc:=hown.cellAt k (by omega)
   rw [bts_get _ _ (by rw [putTo_length];exact hlt)] at hc
   generalize (putTo x n k).getD k 0=old at hc
   have Hst:=hid hst
   clear hst hown hown0 hbel hbelow0
   go_wp2
   go_roundw
   case rel=>exact ⟨k+1,by omega,by go_num,Hst.out,hbel2⟩
   case measure=>simp [intOf];omega
  ·obtain rfl:k=n:=by omega
   go_wp2
   go_ret2
   rw [putTo_all] at hown
   exact ⟨_,rfl,by rw [putL_length,Hgs.out];exact hown,by rw [Hgs.out];exact hbel⟩
theorem or_shl (x b k:Nat) (hx:x<2 ^ (8*k)) (hb:b<256) (hk:k<8):bits .or .u64 (x:Int) (((b*2 ^ (8*k):Nat):Int))=((x+b*2 ^ (8*k):Nat):Int):=by
 have hp:2 ^ (8*k)<=2 ^ 56:=Nat.pow_le_pow_right (by omega) (by omega)
 have h1:b*2 ^ (8*k)<=255*2 ^ (8*k):=Nat.mul_le_mul_right _ (by omega)
 have e:x ||| b*2 ^ (8*k)=x+b*2 ^ (8*k):=by
  rw [Nat.or_comm,Nat.mul_comm,<- Nat.two_pow_add_eq_or_of_lt hx,Nat.add_comm]
 rw [u64_or_nat x _ (by omega) (by omega),e]
theorem shl_wrap (b k:Nat) (hb:b<256) (hk:k<8):IntKind.u64.wrap ((b:Int)*2 ^ (8*k))=((b*2 ^ (8*k):Nat):Int):=by
 have hp:2 ^ (8*k)<=2 ^ 56:=Nat.pow_le_pow_right (by omega) (by omega)
 have h1:b*2 ^ (8*k)<=255*2 ^ (8*k):=Nat.mul_le_mul_right _ (by omega)
 have e:((b:Int)*2 ^ (8*k))=((b*2 ^ (8*k):Nat):Int):=by simp
 rw [e]
 generalize b*2 ^ (8*k)=y at *
 simp [IntKind.wrap,IntKind.bits,IntKind.signed]
 omega
def getN:List Nat->Nat
 | []=>0
 | x :: l=>x+256*getN l
theorem getN_snoc (l:List Nat) (x:Nat):getN (l++[x])=getN l+x*2 ^ (8*l.length):=by
 induction l with
 | nil=>simp [getN]
 | cons y l ih =>
  rw [List.cons_append,getN,ih,getN,List.length_cons]
  have e:2 ^ (8*(l.length+1))=256*2 ^ (8*l.length):=by rw [show 8*(l.length+1)=8*l.length+8 by omega,Nat.pow_add];omega
  rw [e,Nat.mul_add,Nat.mul_left_comm x 256,Nat.add_assoc]
theorem getN_lt {l:List Nat} (h:Small l):getN l<2 ^ (8*l.length):=by
 induction l with
 | nil=>simp [getN]
 | cons y l ih =>
  have h1:=ih (fun x hx=>h x (List.mem_cons_of_mem _ hx))
  have h2:y<256:=h y (List.mem_cons_self ..)
  have e:2 ^ (8*(l.length+1))=256*2 ^ (8*l.length):=by rw [show 8*(l.length+1)=8*l.length+8 by omega,Nat.pow_add];omega
  rw [getN,List.length_cons,e]
  omega
theorem Small.take {l:List Nat} (h:Small l) (k:Nat):Small (l.take k):=fun x hx=>h x (List.mem_of_mem_take hx)
theorem Small.drop {l:List Nat} (h:Small l) (k:Nat):Small (l.drop k):=fun x hx=>h x (List.mem_of_mem_drop hx)
def cutAt (l:List Nat) (i k:Nat):List Nat:=(l.drop i).take k
theorem cutAt_succ (l:List Nat) (i k:Nat) (h:i+k<l.length):getN (cutAt l i (k+1))=getN (cutAt l i k)+l.getD (i+k) 0*2 ^ (8*k):=by
 unfold cutAt
 have hl:k<(l.drop i).length:=by simp;omega
 rw [List.take_succ_eq_append_getElem hl,getN_snoc]
 have e1:((l.drop i).take k).length=k:=by simp;omega
 rw [e1]
 have e2:(l.drop i)[k]=l.getD (i+k) 0:=by simp [List.getD,List.getElem?_eq_getElem h]
 rw [e2]
theorem cutAt_lt {l:List Nat} (h:Small l) (i k:Nat):getN (cutAt l i k)<2 ^ (8*k):=by
 have h1:=getN_lt ((h.drop i).take k)
 have h2:((l.drop i).take k).length<=k:=List.length_take_le _ _
 exact Nat.lt_of_lt_of_le h1 (Nat.pow_le_pow_right (by omega) (by omega))
def Told (x:Nat) (w:World) (e:Ending) (w':World):Prop:=e=.returned (.tuple #[.int .u64 x,.int .i64 0])/\w=w'
set_option maxHeartbeats 400000 in
theorem get_ok (A:Option Addr) (len c B:Nat) (l:List Nat) (i n:Nat) (w:World) (h1:1<=n) (h2:n<=8) (hl:Small l) (hr:Reads w B A len (bts l)) (hlen:len<=maxLen) (h:i+n<=len) :
  Calls Tryz.prog 124 #[.slice A len c,.int .i64 i,.int .i64 n] w (Told (getN (cutAt l i n)) w):=by
 unfold maxLen at hlen
 have hll:=hr.len
 have hd:decide ((len:Int)-(i:Int)<(n:Int))=false:=by simp;omega
 have hd0:decide ((i:Int)<0)=false:=by simp
 go_enter Tryz.func124,Tryz.ntmps124
 go_wp2_with (go_at_call 173;refine (isWidth_yes n _ (by omega) (by omega)).mono ?_;rintro e w' ⟨rfl,rfl⟩)
 go_loop [8,26] (fun s8 s26=>∃k:Nat,k<=n/\s26=.int .i64 k/\s8=.int .u64 (getN (cutAt l i k))) (fun _ k=>n-(intOf k).toNat)
 case atStart=>exact ⟨0,Nat.zero_le _,rfl,by simp [cutAt,getN]⟩
 case round =>
  obtain ⟨k,hk,rfl,rfl⟩:=hrel
  by_cases hlt:k<n
  ·obtain ⟨ad,rfl,hb,hc⟩:=hr.byte (k:=i+k) (by omega)
   have hsn:=hid (cutAt_succ l i k (by omega))
   have hx:=cutAt_lt hl i k
   have hy:=hl.get (i+k)
   have hor:=hid (or_shl _ _ k hx hy (by omega))
   generalize l.getD (i+k) 0=b at *
   generalize getN (cutAt l i k)=x at *
   have hwr:=hid (shl_wrap b k hy (by omega))
   go_wp2
   rw [hwr.out,hor.out]
   go_round
   case rel=>exact ⟨k+1,by omega,by go_num,by rw [hsn.out]⟩
   case measure=>simp [intOf];omega
  ·obtain rfl:k=n:=by omega
   go_wp2
   go_ret2
   exact ⟨rfl,rfl⟩
theorem there_yes (A:Option Addr) (n c i:Nat) (w:World) (hn:n<=maxLen) (h:i / 8<n) :
  Calls Tryz.prog 171 #[.slice A n c,.int .i64 i] w fun e w'=>e=.returned (.bool true)/\w=w':=by
 unfold maxLen at hn
 have hd:decide ((i:Int) / 8<(n:Int))=true:=by simp;omega
 have hd0:decide (0<=(i:Int))=true:=by simp
 go_enter Tryz.func171,Tryz.ntmps171
 go_wp2
 go_ret
 exact ⟨rfl,rfl⟩
def bitB (l:List Nat) (i:Nat):Bool:=l.getD (i / 8) 0 / 2 ^ (i%8)%2 == 1
set_option maxHeartbeats 400000 in
theorem has_in (A:Option Addr) (n c B i:Nat) (l:List Nat) (w:World) (hl:Small l) (hr:Reads w B A n (bts l)) (hn:n<=maxLen) (h:i / 8<n) (hi:i<=9223372036854775807) :
  Calls Tryz.prog 106 #[.slice A n c,.int .i64 i] w fun e w'=>e=.returned (.bool (bitB l i))/\w=w':=by
 have hn2:=hn
 unfold maxLen at hn
 obtain ⟨ad,rfl,hb,hc⟩:=hr.byte h
 have hx:=hl.get (i / 8)
 have hbit:=hid (show bitB l i=(l.getD (i / 8) 0 / 2 ^ (i%8)%2 == 1) from rfl)
 generalize l.getD (i / 8) 0=x at *
 have e1:(bits .and .u8 ((x:Int) / 2 ^ (i%8)) 1 == 1)=bitB l i:=by
  rw [hbit.out]
  have e:((x:Int) / 2 ^ (i%8))=((x / 2 ^ (i%8):Nat):Int):=by simp
  have hlt:x / 2 ^ (i%8)<256:=Nat.lt_of_le_of_lt (Nat.div_le_self _ _) hx
  rw [e]
  generalize x / 2 ^ (i%8)=y at *
  have h2:=u8_and_nat y 1 hlt (by decide)
  rw [show ((1:Nat):Int)=1 from rfl,Nat.and_one_is_mod] at h2
  rw [h2,Bool.eq_iff_iff,beq_iff_eq,beq_iff_eq]
  omega
 go_enter Tryz.func106,Tryz.ntmps106
 go_wp2_with (go_at_call 171;refine (there_yes _ _ _ i _ hn2 h).mono ?_;rintro e w' ⟨rfl,rfl⟩)
 go_ret
 exact ⟨rfl,rfl⟩
theorem has_int (A:Option Addr) (n c B:Nat) (i:Int) (l:List Nat) (w:World) (hl:Small l) (hr:Reads w B A n (bts l)) (hn:n<=140737488351232) (h0:0<=i) (h:i<8*(n:Int)) :
  Calls Tryz.prog 106 #[.slice A n c,.int .i64 i] w fun e w'=>e=.returned (.bool (bitB l i.toNat))/\w=w':=by
 obtain ⟨j,rfl⟩:=Int.eq_ofNat_of_zero_le h0
 exact has_in A n c B j l w hl hr (by unfold maxLen;omega) (by omega) (by omega)
def Cloned (l:List Nat) (w:World) (e:Ending) (w':World):Prop :=
 ∃v,e=.returned v/\w'.ownsRow w.heap.size 5 1 v l.length (bts l)/\Below w.heap.size w w'
set_option maxHeartbeats 400000 in
theorem clone_any (ad:Addr) (n c L:Nat) (l:List Nat) (w:World) (hr:Reads w L (some ad) n (bts l)) (hL:L<=w.heap.size) (hn:n<=140737488351232) :
  Calls Tryz.prog 213 #[.slice (some ad) n c] w (Cloned l w):=by
 obtain ⟨i0,hi,hz0,hz1,hz2⟩:=info_parts info_u8
 have hll:=hid hr.len
 have knil:=fun W=>Lib.run_eql_slice_nil (P:=Tryz.prog) W 24 5 (some ad) n c 0 0 Tryz.underlying24
 go_enter Tryz.func213,Tryz.ntmps213
 go_wp2_with (at_builtin;refine appendAll _ rfl _ _ 24 rfl w.heap.size 5 i0 (.int .u8 0) 1 Tryz.underlying24 hi hz0 hz1 hz2 rfl (.slice (some ⟨w.heap.size,0,none⟩) 0 0) 0 [] rfl (by exact World.ownsRow_made w #[] 0 (Nat.le_refl _) (by decide) rfl) L (some ad) n c (bts l) rfl (hr.alloc hL _) (bts_one l) (by unfold maxLen;omega) (by omega) w (by exact (Below.refl _ _).alloc (Nat.le_refl _) _) (by simp) ?_;intro v1 w1 hown1 _ hbel1)
 go_ret
 exact ⟨v1,rfl,by simpa [hll.out] using hown1,hbel1⟩
def withL (l:List Nat) (i:Nat) (on:Bool):List Nat:=l.set (i / 8) (if on then l.getD (i / 8) 0 ||| 2 ^ (i%8) else l.getD (i / 8) 0 &&& (255-2 ^ (i%8)))
theorem withL_length (l:List Nat) (i:Nat) (on:Bool):(withL l i on).length=l.length:=by simp [withL]
theorem bts_set (l:List Nat) (k y:Nat):(bts l).set k (.int .u8 (y:Int))=bts (l.set k y):=by simp [bts,List.map_set]
theorem pow_bit (m:Nat) (h:m<8):(2:Int) ^ m%256=((2 ^ m:Nat):Int)/\2 ^ m<256:=by
 have h1:2 ^ m<=2 ^ 7:=Nat.pow_le_pow_right (by omega) (by omega)
 have e:(2:Int) ^ m=((2 ^ m:Nat):Int):=by simp
 rw [e]
 generalize 2 ^ m=y at *
 omega
theorem and_bit (x m:Nat) (hx:x<256) (hm:m<8):bits .andNot .u8 (x:Int) (2 ^ m%256)=((x &&& (255-2 ^ m):Nat):Int):=by
 rw [(pow_bit m hm).1];exact u8_andNot_nat x (2 ^ m) hx (pow_bit m hm).2
theorem or_bit8 (x m:Nat) (hx:x<256) (hm:m<8):bits .or .u8 (x:Int) (2 ^ m%256)=((x ||| 2 ^ m:Nat):Int):=by
 rw [(pow_bit m hm).1];exact u8_or_nat x (2 ^ m) hx (pow_bit m hm).2
set_option maxHeartbeats 800000 in
theorem with_ok (A:Option Addr) (n c B i:Nat) (on:Bool) (l:List Nat) (w:World) (hl:Small l) (hr:Reads w B A n (bts l)) (hB:B<=w.heap.size) (hn:n<=140737488351232) (h:i / 8<n) :
  Calls Tryz.prog 170 #[.slice A n c,.int .i64 i,.bool on] w (Made (withL l i on) w):=by
 obtain ⟨ad,rfl,hb,hc0⟩:=hr.byte h
 clear hc0
 have hx:=hl.get (i / 8)
 have hlen:=hid hr.len
 have hm:i%8<8:=by omega
 go_enter Tryz.func170,Tryz.ntmps170
 go_wp2_with (go_at_call 171;refine (there_yes _ _ _ i _ (by unfold maxLen;omega) h).mono ?_;rintro e w' ⟨rfl,rfl⟩)
 go_wp2_with fail
 refine (clone_any ad n c B l _ hr hB hn).mono ?_
 rintro e w1 ⟨v,rfl,hown,hbel⟩
 rw [hlen.out] at hown
 obtain ⟨g,cap,hv,hg,hlt⟩:=hown.form (by omega)
 subst hv
 have hfz:=hown.frozenAt (i / 8)
 have hc:=hown.cellAt (i / 8) (by omega)
 rw [bts_get _ _ (by rw [hlen.out];exact h)] at hc
 have hw:=hid (show withL l i on=l.set (i / 8) (if on then l.getD (i / 8) 0 ||| 2 ^ (i%8) else l.getD (i / 8) 0 &&& (255-2 ^ (i%8))) from rfl)
 generalize l.getD (i / 8) 0=x at *
 cases on
 ·go_wp2
  go_region
  go_wp2
  go_ret2
  refine ⟨.slice (some ⟨g,0,none⟩) n cap,rfl,?_,?_⟩
  ·rw [withL_length,hlen.out,hw.out,and_bit x _ hx hm]
   have:=(hown.stored (i / 8) (.int .u8 ((x &&& (255-2 ^ (i%8)):Nat):Int))).1
   rw [bts_set] at this
   exact this
  ·exact (hbel.setCell (p:=⟨g,i / 8,none⟩) hg _).drew
 ·go_wp2
  go_region
  go_wp2
  go_ret2
  refine ⟨.slice (some ⟨g,0,none⟩) n cap,rfl,?_,?_⟩
  ·rw [withL_length,hlen.out,hw.out,or_bit8 x _ hx hm]
   have:=(hown.stored (i / 8) (.int .u8 ((x ||| 2 ^ (i%8):Nat):Int))).1
   rw [bts_set] at this
   exact this
  ·exact (hbel.setCell (p:=⟨g,i / 8,none⟩) hg _).drew
def xorL (a b:List Nat):List Nat:=tab (fun i=>a.getD i 0 ^^^ b.getD i 0) a.length
set_option maxHeartbeats 400000 in
theorem xor_ok (A B:Option Addr) (n c d L:Nat) (a b:List Nat) (w:World) (ha:Small a) (hb:Small b) (hra:Reads w L A n (bts a)) (hrb:Reads w L B n (bts b)) (hL:L<=w.heap.size) (hn:n<=140737488351232) :
  Calls Tryz.prog 227 #[.slice A n c,.slice B n d] w (Made (xorL a b) w):=by
 obtain ⟨i0,hi,hz0,hz1,hz2⟩:=info_parts info_u8
 have hla:=hra.len
 go_enter Tryz.func227,Tryz.ntmps227
 go_wp2_with (first
  | (at_make;refine wpList_make_full _ rfl _ _ 24 rfl w.heap.size 5 i0 (.int .u8 0) 1 Tryz.underlying24 hi hz0 hz1 _ _ _ _ n rfl rfl rfl rfl (by rw [hz2];omega) (by unfold maxLen;omega) (Nat.le_refl _) ?_;intro w0 hown0 hgrow0))
 have hbelow0:Below w.heap.size w w0:=(Below.refl _ _).grown hgrow0 (Nat.le_refl _) (fun k h=>by cases h)
 clear hgrow0 hi hz0 hz1 hz2
 rw [made_zero fun i=>a.getD i 0 ^^^ b.getD i 0] at hown0
 have hfin:Hid ((xorL a b).length=n/\tabTo (fun i=>a.getD i 0 ^^^ b.getD i 0) n n=xorL a b):=hid ⟨by rw [xorL,tab_length,hla],by rw [tabTo_all,xorL,hla]⟩
 generalize hgs:w.heap.size=g at *
 have Hgs:=hid hgs
 clear hgs hla
 go_loopw [18] (fun i wr=>∃k:Nat,k<=n/\i=.int .i64 k/\wr.ownsRow g 5 1 (.slice (some ⟨g,0,none⟩) n n) n (bts (tabTo (fun i=>a.getD i 0 ^^^ b.getD i 0) n k))/\Below g w wr) (fun i _=>n-(intOf i).toNat)
 case atStart=>exact ⟨0,Nat.zero_le _,rfl,hown0,hbelow0⟩
 case round =>
  obtain ⟨k,hk,rfl,hown,hbel⟩:=hrel
  by_cases hlt:k<n
  ·have hra2:=(hra.more hL).below hbel
   have hrb2:=(hrb.more hL).below hbel
   obtain ⟨ad,rfl,hba,hca⟩:=hra2.byte hlt
   obtain ⟨bd,rfl,hbb,hcb⟩:=hrb2.byte hlt
   have hxa:=ha.get k
   have hxb:=hb.get k
   have hst:=(hown.stored k (.int .u8 ((a.getD k 0 ^^^ b.getD k 0:Nat):Int))).1
   rw [tabTo_succ (fun i=>a.getD i 0 ^^^ b.getD i 0)] at hst
   have hbel2:=hbel.setCell (p:=⟨g,k,none⟩) (Nat.le_refl _) (.int .u8 ((a.getD k 0 ^^^ b.getD k 0:Nat):Int))
   have hfz:=hown.frozenAt k
   have hc:=hown.cellAt k (by omega)
   rw [bts_get _ _ (by rw [tabTo_length];exact hlt)] at hc
   generalize (tabTo (fun i=>a.getD i 0 ^^^ b.getD i 0) n k).getD k 0=old at hc
   have e1:=u8_xor_nat _ _ hxa hxb
   have Hst:=hid hst
   clear hst hown hown0 hbel hbelow0 hra hrb hra2 hrb2
   generalize a.getD k 0=x at *
   generalize b.getD k 0=y at *
   go_wp2
   go_region
   go_wp2
   go_roundw
   case rel=>exact ⟨k+1,by omega,by go_num,Hst.out,hbel2.drew⟩
   case measure=>simp [intOf];omega
  ·obtain rfl:k=n:=by omega
   go_wp2
   go_ret2
   exact ⟨_,rfl,by rw [hfin.out.1,<- hfin.out.2,Hgs.out];exact hown,by rw [Hgs.out];exact hbel⟩
end Go.Proofs.YtcnjpmcelihknaaGreatDoor
