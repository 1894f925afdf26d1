/-
  What the statement's proof rests on, part 26.
  Conditions: each theorem's own.
-/
import Derived.Test.YtcnjpmcelihknaaGreatDoorV25
import Derived.Test.YtcnjpmcelihknaaGreatDoorV15
open Go.Lib (hid)
namespace Go.Proofs.YtcnjpmcelihknaaGreatDoor.U
open Go.RowKit Go.Maps
section
variable (s q:Int) (A:Option Addr) (n0 c:Nat) (w:World)
end
section
variable {B:Nat} {W w w':World} {g a p d n:Nat} {o:Int} {S S':Sh.Sf} {F:Nat->Prop} {P:Cs}
theorem goes_only {o':Int} (hG:Goes B W w w' a p d o' S' F) (b:Nat) (hb:b<w.heap.size) (hn:¬With F a b):w'.heap[b]?=w.heap[b]?:=by
 obtain ⟨F',_,m⟩:=hG
 exact m.1.block b hb hn
end
theorem pad_noughts {w:World} {g:Nat} (h:Pad w g []):Reads w w.heap.size (some ⟨g,0,none⟩) 128 (bts Sh.noughts):=by
 have h2:=h.more 128 (by decide)
 have:=h2.reads
 exact this
theorem wp_make_noughts {o:Oper} {a:Act} {w:World} {K:Act->World->Prop} {Q:Exit->Act->World->Prop} (l c:Operand) (hop:o.op=Op.makeSlice 24 l c) (hl:a.eval l=.int .i64 128) (hc:a.eval c=.int .i64 128)
  (hK:∀w',Pad w' w.heap.size []->Below w.heap.size w w'->K (a.put o.dst (.slice (some ⟨w.heap.size,0,none⟩) 128 128)) w'):Oper.wp Tryz.prog o a w K Q:=by
 obtain ⟨i,hi,hz,hsz,hby⟩:=info_parts info_u8
 have hrun:=run_make (P:=Tryz.prog) w 24 5 i (.int .u8 0) Tryz.underlying24 hi hz .i64 .i64 128 128 (by decide) (by decide) (by rw [hby];decide) (by decide)
 rw [hsz] at hrun
 unfold Oper.wp
 simp only [execOp,hop,hl,hc,Sem.run_bind,hrun,Result.andThen_ok]
 exact hK _ pad_zero ((Below.refl _ _).alloc (Nat.le_refl _) _)
section
variable {B:Nat} {W w w':World} {g a p d n:Nat} {o:Int} {S S':Sh.Sf} {F:Nat->Prop} {P:Cs}
end
section
variable {B:Nat} {W w w':World} {g a p d n:Nat} {o:Int} {S S':Sh.Sf} {F:Nat->Prop} {P:Cs}
end
end Go.Proofs.YtcnjpmcelihknaaGreatDoor.U
namespace Go.Proofs.YtcnjpmcelihknaaGreatDoor.Kj
open Go.RowKit Go.Maps
open Go.Proofs.YtcnjpmcelihknaaGreatDoor.U (Pad splice_pad setL setL_eq setCells_heapP only_setCells only_row_below')
theorem wp_copy {P:Program} {ops:Array Oper} {rest:List Oper} {o:Oper} {a:Act} {Q:Exit->Act->World->Prop} {w w':World} (hgd:o.guard=none) (d s:Operand) (dT sT:TypeId)
  (ho:o.op=.call { callee:=.builtin .copy,args:=#[d,s],argTypes:=#[dT,sT] }) {dv sv v:Value} (hd:a.eval d=dv) (hs:a.eval s=sv) (hr:(Builtin.copy_ #[dT,sT] o.type #[dv,sv]).run P w=.ok v w')
  (hk:wpList P ops Q rest (a.put o.dst v) w'):wpList P ops Q (o :: rest) a w:=by
 refine wpList_plain hgd fun K hK=>?_
 unfold Oper.wp execOp
 simp only [ho,resolve,invoke,builtin,Sem.run_bind,Sem.run_pure,Result.andThen_ok,List.map_toArray,List.map_cons,List.map_nil,hd,hs,hr]
 exact hK _ _ hk
theorem info_u8s:(Tryz.prog.info? 5).map (·.size)=some 1:=by kernel_rfl
theorem pad_set {w:World} {g n:Nat} {l c:List Nat} (h:Pad w g l) (hn:l.length=n) (hfit:n+c.length<=128):Pad (w.setCells g n (bts c)) g (l++c)/\Sh.Only (fun b=>b=g) w (w.setCells g n (bts c)):=by
 subst hn
 have hl:(bts c).length=c.length:=bts_length c
 have hall:(bts (l++List.replicate (128-l.length) 0)).length=128:=by rw [bts_length,List.length_append,List.length_replicate];omega
 refine ⟨?_,only_setCells g _ _ w⟩
 have h2:=setCells_heapP (bts c) l.length w _ h
 rw [setL_eq _ _ _ (by omega)] at h2
 have e:=splice_pad l (128-l.length) l.length c rfl (by omega)
 unfold splice at e
 unfold Pad
 rw [<- List.append_assoc] at e
 refine h2.trans ?_
 rw [List.length_append,<- Nat.sub_sub,<- e]
theorem run_copy_pad {w:World} {g n:Nat} {l c:List Nat} {B:Nat} {v:Value} (m:Nat) (hm:n+m=128) (h:Pad w g l) (hn:l.length=n) (hfit:n+c.length<=128) (ho:w.ownsRow B 5 1 v c.length (bts c)) (h0:0<c.length) (ty:TypeId) :
  (Builtin.copy_ #[24,24] ty #[.slice (some ⟨g,n,none⟩) m m,v]).run Tryz.prog w=.ok (.int .i64 (c.length:Int)) (w.setCells g n (bts c)):=by
 obtain ⟨A,cc,rfl,hr,_,_⟩:=own_shape ho
 obtain ⟨ad,rfl,_,hc⟩:=hr.2 h0
 have hall:(bts (l++List.replicate (128-l.length) 0)).length=128:=by rw [bts_length,List.length_append,List.length_replicate];omega
 have:=run_copy_cells (P:=Tryz.prog) w 24 24 ty 5 g n m m ad c.length cc (bts c) Tryz.underlying24 info_u8s (by rw [bts_length];exact (Nat.min_eq_left (by omega)).symm) hc
  (fun j hj=>by
   rw [bts_length] at hj
   rw [cell_of_row _ _ (n+j) _ _ _ h,List.getElem?_toArray,List.getElem?_eq_getElem (by omega)];rfl)
  (fun j _=>frozen_of_row _ _ _ _ _ h) (bts_one c)
 rw [this,bts_length]
 rfl
def Magic (s:ByteArray) (mg:List Nat):Prop:=mg.length=4/\Small mg/\∀(W:World) (g:Nat) (ty:TypeId),Pad W g [] ->
 (Builtin.copy_ #[24,9] ty #[.slice (some ⟨g,0,none⟩) 128 128,.string s]).run Tryz.prog W=.ok (.int .i64 4) (W.setCells g 0 (bts mg))
theorem zero_cell {W:World} {g j:Nat} (h:Pad W g []) (hj:j<128):W.cell? ⟨g,j,none⟩=some (.int .u8 0):=by
 have e:bts ([]++List.replicate (128-([]:List Nat).length) 0)=List.replicate 128 (Value.int .u8 0):=by
  unfold bts
  rw [List.nil_append,List.map_replicate]
  rfl
 rw [cell_of_row _ _ j _ _ _ h,List.getElem?_toArray,e,List.getElem?_replicate,if_pos hj]
def headM:List Nat:=[74,72,68,82]
def descM:List Nat:=[74,68,83,67]
theorem magic_head:Magic ⟨#[74,72,68,82]⟩ headM:=⟨rfl,by unfold Small headM;decide,fun W g ty h =>
 _root_.Go.run_copy_string (P:=Tryz.prog) W 24 9 ty 5 g 0 128 128 ⟨#[74,72,68,82]⟩ Tryz.underlying24 Tryz.sizeOf5 (by decide)
   (fun j hj=>by rw [Nat.zero_add,zero_cell h (by have:j<4:=hj;omega)];rfl) (fun j _=>by rw [Nat.zero_add];exact frozen_of_row _ _ j _ _ h)⟩
theorem magic_desc:Magic ⟨#[74,68,83,67]⟩ descM:=⟨rfl,by unfold Small descM;decide,fun W g ty h =>
 _root_.Go.run_copy_string (P:=Tryz.prog) W 24 9 ty 5 g 0 128 128 ⟨#[74,68,83,67]⟩ Tryz.underlying24 Tryz.sizeOf5 (by decide)
   (fun j hj=>by rw [Nat.zero_add,zero_cell h (by have:j<4:=hj;omega)];rfl) (fun j _=>by rw [Nat.zero_add];exact frozen_of_row _ _ j _ _ h)⟩
/-! ### the text of such a block -/
def numsV (ns:List Nat):List Value:=ns.map fun (x:Nat)=>Value.int .i64 (x:Int)
def sealTo (mg:List Nat) (sq:Nat) (ns:List Nat) (k:Nat):List Nat:=mg++putL sq 8++(ns.take k).flatMap fun x=>putL x 4
def sealB (mg:List Nat) (sq:Nat) (ns:List Nat):List Nat:=sealTo mg sq ns ns.length++List.replicate (124-(12+4*ns.length)) 0
def sealL (mg:List Nat) (sq:Nat) (ns:List Nat):List Nat:=sealB mg sq ns++putL (Nums.sum 0 (sealB mg sq ns)) 4
theorem flat4 (ns:List Nat):(ns.flatMap fun x=>putL x 4).length=4*ns.length:=by
 induction ns with
 | nil=>rfl
 | cons x t ih=>rw [List.flatMap_cons,List.length_append,ih,putL_length,List.length_cons];omega
theorem sealTo_length {mg:List Nat} (hm:mg.length=4) (sq:Nat) (ns:List Nat) {k:Nat} (hk:k<=ns.length):(sealTo mg sq ns k).length=12+4*k:=by
 unfold sealTo
 rw [List.length_append,List.length_append,hm,putL_length,flat4,List.length_take,Nat.min_eq_left hk]
theorem sealB_length {mg:List Nat} (hm:mg.length=4) (sq:Nat) {ns:List Nat} (hn:ns.length<=26):(sealB mg sq ns).length=124:=by
 unfold sealB
 rw [List.length_append,sealTo_length hm sq ns (Nat.le_refl _),List.length_replicate];omega
theorem sealL_length {mg:List Nat} (hm:mg.length=4) (sq:Nat) {ns:List Nat} (hn:ns.length<=26):(sealL mg sq ns).length=128:=by
 unfold sealL
 rw [List.length_append,sealB_length hm sq hn,putL_length]
theorem putL_small (x n:Nat):Small (putL x n):=by
 intro y hy
 simp only [putL,List.mem_map] at hy
 obtain ⟨i,_,rfl⟩:=hy
 exact Nat.mod_lt _ (by decide)
theorem small_append {a b:List Nat} (ha:Small a) (hb:Small b):Small (a++b):=fun x hx=>(List.mem_append.1 hx).elim (ha x) (hb x)
theorem sealTo_small {mg:List Nat} (hm:Small mg) (sq:Nat) (ns:List Nat) (k:Nat):Small (sealTo mg sq ns k) :=
 small_append (small_append hm (putL_small _ _)) fun x hx=>by
  obtain ⟨y,_,hy⟩:=List.mem_flatMap.1 hx
  exact putL_small _ _ x hy
theorem small_zeros (n:Nat):Small (List.replicate n 0):=fun x hx=>by rw [(List.mem_replicate.1 hx).2];decide
theorem sealB_small {mg:List Nat} (hm:Small mg) (sq:Nat) (ns:List Nat):Small (sealB mg sq ns):=small_append (sealTo_small hm sq ns _) (small_zeros _)
theorem sealL_small {mg:List Nat} (hm:Small mg) (sq:Nat) (ns:List Nat):Small (sealL mg sq ns):=small_append (sealB_small hm sq ns) (putL_small _ _)
theorem sealL_sec {mg:List Nat} (hl:mg.length=4) (hm:Small mg) (sq:Nat) {ns:List Nat} (hn:ns.length<=26):Sh.Sec (sealL mg sq ns):=⟨sealL_length hl sq hn,sealL_small hm sq ns⟩
theorem sealTo_succ (mg:List Nat) (sq:Nat) (ns:List Nat) {k:Nat} (hk:k<ns.length):sealTo mg sq ns (k+1)=sealTo mg sq ns k++putL ns[k] 4:=by
 unfold sealTo
 rw [List.take_succ_eq_append_getElem hk,List.flatMap_append,List.append_assoc,List.append_assoc,List.append_assoc]
 congr 2
theorem sealB_sum {mg:List Nat} (hm:Small mg) (sq:Nat) (ns:List Nat):Nums.sum 0 (sealB mg sq ns)<4294967296:=Nums.sum_lt (sealB_small hm sq ns) (by decide)
end Go.Proofs.YtcnjpmcelihknaaGreatDoor.Kj
namespace Go.Proofs.YtcnjpmcelihknaaGreatDoor.U
open Go.RowKit Go.Maps
def AllB (F:Nat->Prop) (a:Nat->Nat) (n:Nat) (b:Nat):Prop:=F b\/∃i,i<n/\b=a i
def put1 {α:Type} (f:Nat->α) (i:Nat) (x:α):Nat->α:=fun j=>if j=i then x else f j
structure Devs (B:Nat) (W w:World) (p n:Nat) (a:Nat->Nat) (o:Nat->Int) (S:Sh.Sf) (F:Nat->Prop):Prop where
 on:Sh.At B W w p S F
 dev:∀i,i<n->DevIs w (a i) p i (o i)
 apart:∀i,i<n->¬F (a i)
 inj:∀i j,i<n->j<n->a i=a j->i=j
 low:∀i,i<n->B<=a i
def DsGoes (B:Nat) (W w w':World) (p n:Nat) (a:Nat->Nat) (o:Nat->Int) (S:Sh.Sf) (F:Nat->Prop):Prop:=∃F',Devs B W w' p n a o S F'/\Sh.Moves (AllB F a n) w (AllB F' a n) w'
section
variable {B:Nat} {W w w' w'':World} {p n:Nat} {a:Nat->Nat} {o o':Nat->Int} {S S' S'':Sh.Sf} {F F':Nat->Prop}
theorem Devs.dv (h:Devs B W w p n a o S F) {i:Nat} (hi:i<n):Dv B W w (a i) p i (o i) S F:=⟨h.on,h.dev i hi,h.apart i hi,h.low i hi⟩
theorem Devs.lt (h:Devs B W w p n a o S F):∀b,AllB F a n b->b<w.heap.size:=by
 rintro b (e | ⟨i,hi,rfl⟩)
 ·exact h.on.shelf.ltF e
 ·exact (h.dev i hi).lt
theorem Devs.grown (h:Devs B W w p n a o S F) (hb:Below w.heap.size w w'):Devs B W w' p n a o S F :=
 ⟨h.on.grown hb,fun i hi=>(h.dev i hi).same (hb.block _ (h.dev i hi).lt),h.apart,h.inj,h.low⟩
theorem Devs.goes (h:Devs B W w p n a o S F) {i:Nat} (hi:i<n) {x:Int} (hG:Goes B W w w' (a i) p i x S' F):DsGoes B W w w' p n a (put1 o i x) S' F:=by
 obtain ⟨F',D,m⟩:=hG
 have hne:∀j,j<n->j≠i->¬With F (a i) (a j):=fun j hj hji e=>e.elim (h.apart j hj) fun e=>hji (h.inj j i hj hi e)
 have ha:∀j,j<n->¬F' (a j):=by
  intro j hj e
  by_cases hji:j=i
  ·subst hji;exact D.apart e
  ·rcases m.2 (a j) (.inl e) with e | e
   ·exact hne j hj hji e
   ·exact Nat.lt_irrefl _ (Nat.lt_of_lt_of_le (h.dev j hj).lt e)
 refine ⟨F',⟨D.on,fun j hj=>?_,ha,h.inj,h.low⟩,m.1.mono fun b hb=>hb.imp id (fun e=>⟨i,hi,e⟩),?_⟩
 ·by_cases hji:j=i
  ·subst hji
   unfold put1
   rw [if_pos rfl]
   exact D.dev
  ·unfold put1
   rw [if_neg hji]
   exact (h.dev j hj).same (m.1.block _ (h.dev j hj).lt (hne j hj hji))
 ·rintro b (e | ⟨j,hj,rfl⟩)
  ·exact (m.2 b (.inl e)).imp (fun e=>e.imp id fun e=>⟨i,hi,e⟩) id
  ·exact .inl (.inr ⟨j,hj,rfl⟩)
theorem Devs.stays (h:Devs B W w p n a o S F) (hs:Sh.Shelf w' p S' F) (ho:Sh.Only F w w'):Devs B W w' p n a o S' F :=
 ⟨h.on.stays hs ho,fun i hi=>(h.dev i hi).same (ho.block _ (h.dev i hi).lt (h.apart i hi)),h.apart,h.inj,h.low⟩
end
/-! ### logs -/
section
variable {B:Nat} {W w w':World} {p n L:Nat} {a g:Nat->Nat} {o o':Nat->Int} {S S':Sh.Sf} {F F':Nat->Prop}
end
theorem base_ok (n:Nat) (h1:1<=n) (h2:n<=8) (w:World):Calls Tryz.prog 138 #[.int .i64 n] w fun e w'=>e=.returned (.tuple #[.int .i64 ((2+2*n:Nat):Int),.int .i64 0])/\w=w':=by
 have hx:=hid (show 2+2*(n:Int)=((2+2*n:Nat):Int) by omega)
 have q2:decide ((n:Int)<=8)=true:=by simp;omega
 go_enter Tryz.func138,Tryz.ntmps138
 go_wp2
 go_ret2
 exact ⟨by rw [<- hx.out];rfl,rfl⟩
theorem stripes_yes (s:Int) (h1:1<=s) (h2:s<=1024) (w:World):Calls Tryz.prog 181 #[.int .i64 s] w fun e w'=>e=.returned (.bool true)/\w=w':=by
 have q1:decide (s≥1)=true:=by simp;omega
 have q2:decide (s<=1024)=true:=by simp;omega
 go_enter Tryz.func181,Tryz.ntmps181
 go_wp2
 go_ret
 exact ⟨rfl,rfl⟩
theorem need_ok (s n:Nat) (h1:1<=n) (h2:n<=8) (h3:1<=s) (h4:s<=1024) (w:World):Calls Tryz.prog 129 #[.int .i64 s,.int .i64 n] w fun e w'=>e=.returned (.tuple #[.int .i64 ((2+2*n+s:Nat):Int),.int .i64 0])/\w=w':=by
 have hq:=hid (base_ok n h1 h2)
 have hx:=hid (show ((2+2*n:Nat):Int)+(s:Int)=((2+2*n+s:Nat):Int) by omega)
 have hy:2+2*n<=18:=by omega
 have hs:=hid (stripes_yes s (by omega) (by omega))
 generalize 2+2*n+s=z at *
 generalize 2+2*n=x at *
 go_enter Tryz.func129,Tryz.ntmps129
 go_wp2_with (first
  | (go_at_call 138;refine (hq.out _).mono ?_;rintro e w' ⟨rfl,rfl⟩)
  | (go_at_call 181;refine (hs.out _).mono ?_;rintro e w' ⟨rfl,rfl⟩))
 go_ret2
 exact ⟨by rw [<- hx.out];rfl,rfl⟩
set_option maxRecDepth 20000 in
theorem rNoughts_any (ad:Addr) (c:Nat) (b:Sh.Bs) (w:World) (hr:Reads w w.heap.size (some ad) 128 (bts b)) :
  Calls Tryz.prog 187 #[.slice (some ad) 128 c] w fun e w'=>e=.returned (.bool (decide (b=Sh.noughts)))/\w=w':=by
 have hl:=hr.len
 have he:=arr_eql w hl (show Sh.noughts.length=128 from by simp [Sh.noughts])
 have hld:=load_arr hr
 have hz:=zero_bytes
 have hat:=run_arrayAt ad c
 have hzn:=zcB_ne
 rw [<- zcB_bts] at he
 have hq:(b == Sh.noughts)=decide (b=Sh.noughts):=by rw [Bool.eq_iff_iff,beq_iff_eq,decide_eq_true_iff]
 rw [hq] at he
 generalize decide (b=Sh.noughts)=q at *
 clear hq hr hl
 generalize (bts b).toArray=X at *
 go_enter Tryz.func187,Tryz.ntmps187
 go_wp2_with (refine loadKnown (o:=⟨some 5,_,_,_,_,_⟩) (by rfl) 147 (.tmp 4) rfl ad rfl (.agg X) hld ?_)
 go_ret
 exact ⟨rfl,rfl⟩
theorem below_only {w w':World} {F:Nat->Prop} (h:Below w.heap.size w w'):Sh.Only F w w':=⟨h.os,h.tape,h.output,h.size,fun k hk _=>h.block k hk⟩
section
variable {B:Nat} {W w:World} {a p d:Nat} {o:Int} {S:Sh.Sf} {F:Nat->Prop}
set_option maxRecDepth 20000 in
theorem nought_calm (h:Dv B W w a p d o S F) (hT:Tabs W) (hTB:max 0 1+1<=B) (hc:Calm S d) (k:Nat) (hk:k<blk S.sectors) (hg:goodAt S d k=true) (hv:V S d (dataOf k)=Sh.noughts) (g:Option Addr) :
  Calls Tryz.prog 134 #[.agg #[.pointer (some ⟨a,0,none⟩),.pointer g],.int .i64 k] w fun e w'=>e=.returned (.int .i64 0)/\Dv B W w' a p d o (Looked S d) F/\Sh.Only F w w':=by
 have hb:Below w.heap.size w (w.alloc (.cells #[.pointer (some ⟨a,0,none⟩),.pointer g] 130)):=(Below.refl _ _).alloc (Nat.le_refl _) _
 have HRD:=hid (read_calm (h.grown hb) hT hTB hc k hk hg)
 have HB:=hid hb
 rw [hv] at HRD
 clear h hb hv hg hk hT hTB hc
 go_enter Tryz.func134,Tryz.ntmps134
 go_wp2_with fail
 refine HRD.out.mono ?_
 rintro e w1 ⟨A,c,rfl,y,D,O⟩
 obtain ⟨ad,rfl⟩:=bytes_some y
 have HIS:=hid (rNoughts_any ad c Sh.noughts w1 y.1)
 rw [decide_eq_true rfl] at HIS
 have HO:=hid ((below_only (F:=F) HB.out).trans O (fun _ e=>.inl e))
 clear y O
 go_wp2_with (go_at_call 187;refine HIS.out.mono ?_;rintro e w' ⟨rfl,rfl⟩)
 go_ret
 exact ⟨rfl,D,HO.out⟩
end
end Go.Proofs.YtcnjpmcelihknaaGreatDoor.U
