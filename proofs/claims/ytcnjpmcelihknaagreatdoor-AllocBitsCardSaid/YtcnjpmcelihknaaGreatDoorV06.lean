/-
  What the statement's proof rests on, part 6.
  Conditions: each theorem's own.
-/
import Derived.Test.YtcnjpmcelihknaaGreatDoorV05
import Derived.Laws.IdiomStrings
open Go.Lib (hid)
namespace Go.Proofs.YtcnjpmcelihknaaGreatDoor.Sh
open Go.RowKit Go.Maps
section
variable {w:World} {p D:Nat} {S:Sf} {F:Nat->Prop} {gs:Nat->Gh}
theorem ShelfIs.c0 (h:ShelfIs w p S F D gs):w.cell? ⟨p,0,none⟩=some (.bool S.off):=cell_of_row _ _ 0 _ _ _ h.root
theorem ShelfIs.c2 (h:ShelfIs w p S F D gs):w.cell? ⟨p,2,none⟩=some (.slice (some ⟨D,0,none⟩) S.disks.length S.disks.length):=cell_of_row _ _ 2 _ _ _ h.root
theorem ShelfIs.c3 (h:ShelfIs w p S F D gs):w.cell? ⟨p,3,none⟩=some (.int .i64 (S.sectors:Int)):=cell_of_row _ _ 3 _ _ _ h.root
theorem ShelfIs.c4 (h:ShelfIs w p S F D gs):w.cell? ⟨p,4,none⟩=some (.int .i64 S.count):=cell_of_row _ _ 4 _ _ _ h.root
theorem ShelfIs.free (h:ShelfIs w p S F D gs) (i:Nat):w.frozen? ⟨p,i,none⟩=false:=frozen_of_row _ _ _ _ _ h.root
theorem ShelfIs.dc (h:ShelfIs w p S F D gs) {d c:Nat} (hd:d<S.disks.length) (hc:c<4):w.cell? ⟨D,d*4+c,none⟩=some (diskV (gs d) (S.disks.getD d default).dead c) :=
 cell_at h.row (rowOf_at _ hd hc)
theorem ShelfIs.dfree (h:ShelfIs w p S F D gs) (i:Nat):w.frozen? ⟨D,i,none⟩=false:=h.row.frozenAt i
theorem ShelfIs.diskOf (h:ShelfIs w p S F D gs) {d:Nat} (hd:d<S.disks.length):DiskIs w S.sectors (gs d) (S.disks.getD d default):=by
 have e:S.disks[d]?=some (S.disks.getD d default):=by simp [List.getD,List.getElem?_eq_getElem hd]
 exact h.disk d _ e
end
def why (S:Sf) (d:Nat):Int:=if S.off=true then 3 else if (S.disks.getD d default).dead=true then 4 else 0
section
variable {w:World} {p D:Nat} {S:Sf} {F:Nat->Prop} {gs:Nat->Gh} (h:ShelfIs w p S F D gs)
include h
theorem hasDisk_yes (d:Nat) (hd:d<S.disks.length):Calls Tryz.prog 217 #[.pointer (some ⟨p,0,none⟩),.int .i64 d] w fun e w'=>e=.returned (.bool true)/\w=w':=by
 have c2:=h.c2
 have hm:=h.most
 generalize S.disks.length=k at *
 clear h
 go_enter Tryz.func217,Tryz.ntmps217
 go_wp2
 go_ret
 exact ⟨rfl,rfl⟩
theorem hasSector_yes (d n:Nat) (hd:d<S.disks.length) (hn:n<S.sectors):Calls Tryz.prog 260 #[.pointer (some ⟨p,0,none⟩),.int .i64 d,.int .i64 n] w fun e w'=>e=.returned (.bool true)/\w=w':=by
 have c3:=h.c3
 have hs:=h.secM
 have hc:=hid (hasDisk_yes h d hd)
 generalize S.sectors=k at *
 clear h
 go_enter Tryz.func260,Tryz.ntmps260
 go_wp2_with (go_at_call 217;refine hc.out.mono ?_;rintro e w' ⟨rfl,rfl⟩)
 go_ret
 exact ⟨rfl,rfl⟩
def RefusedAs (S:Sf) (d:Nat) (w:World) (e:Ending) (w':World):Prop:=e=.returned (.int .i64 (why S d))/\w=w'
omit h in
theorem refusedAs {k:Int} {d:Nat} (hk:why S d=k) {w w':World} (hw:w=w'):RefusedAs S d w (.returned (.int .i64 k)) w':=⟨by rw [hk],hw⟩
theorem refusal_any (d:Nat) (hd:d<S.disks.length):Calls Tryz.prog 259 #[.pointer (some ⟨p,0,none⟩),.int .i64 d,.bool true] w (RefusedAs S d w):=by
 have c0:=h.c0
 have c2:=h.c2
 have c3:w.cell? ⟨D,d*4+3,none⟩=some (.bool (S.disks.getD d default).dead):=h.dc hd (by decide)
 have hm:=h.most
 clear h
 by_cases ho:S.off=true
 ·have hw:=hid (show why S d=3 by unfold why;rw [if_pos ho])
  rw [ho] at c0
  generalize S.disks.length=k at *
  clear ho c3
  go_enter Tryz.func259,Tryz.ntmps259
  go_wp2
  go_ret
  exact refusedAs hw.out rfl
 ·rw [Bool.not_eq_true] at ho
  by_cases hb:(S.disks.getD d default).dead=true
  ·have hw:=hid (show why S d=4 by unfold why;rw [if_neg (by rw [ho];decide),if_pos hb])
   rw [ho] at c0
   rw [hb] at c3
   generalize S.disks.length=k at *
   clear ho hb
   go_enter Tryz.func259,Tryz.ntmps259
   go_wp2
   go_ret
   exact refusedAs hw.out rfl
  ·rw [Bool.not_eq_true] at hb
   have hw:=hid (show why S d=0 by unfold why;rw [if_neg (by rw [ho];decide),if_neg (by rw [hb];decide)])
   rw [ho] at c0
   rw [hb] at c3
   generalize S.disks.length=k at *
   clear ho hb
   go_enter Tryz.func259,Tryz.ntmps259
   go_wp2
   go_ret
   exact refusedAs hw.out rfl
theorem dead_yes (d:Nat) (hd:d<S.disks.length):Calls Tryz.prog 185 #[.pointer (some ⟨p,0,none⟩),.int .i64 d] w fun e w'=>e=.returned (.bool (S.disks.getD d default).dead)/\w=w':=by
 have hc:=hid (hasDisk_yes h d hd)
 have c2:=h.c2
 have hm:=h.most
 have c3:w.cell? ⟨D,d*4+3,none⟩=some (.bool (S.disks.getD d default).dead):=h.dc hd (by decide)
 clear h
 generalize S.disks.length=k at *
 generalize (S.disks.getD d default).dead=b at *
 go_enter Tryz.func185,Tryz.ntmps185
 go_wp2_with (go_at_call 217;refine hc.out.mono ?_;rintro e w' ⟨rfl,rfl⟩)
 go_ret
 exact ⟨rfl,rfl⟩
theorem off_any:Calls Tryz.prog 119 #[.pointer (some ⟨p,0,none⟩)] w fun e w'=>e=.returned (.bool S.off)/\w=w':=by
 have c0:=h.c0
 generalize S.off=b at *
 clear h
 go_enter Tryz.func119,Tryz.ntmps119
 go_wp2
 go_ret
 exact ⟨rfl,rfl⟩
theorem size_any:Calls Tryz.prog 127 #[.pointer (some ⟨p,0,none⟩)] w fun e w'=>e=.returned (.tuple #[.int .i64 (S.disks.length:Int),.int .i64 (S.sectors:Int)])/\∃n,w'=w.drewN n:=by
 have c2:=h.c2
 have c3:=h.c3
 generalize S.disks.length=k at *
 generalize S.sectors=n at *
 clear h
 go_enter Tryz.func127,Tryz.ntmps127
 go_wp2
 go_quiet (fail)
 go_wp2
 go_ret2
 exact ⟨rfl,_,rfl⟩
end
theorem type_ne {w:World} {b:Nat} {c c2:Array Value} {t t2:TypeId} {f f2:Nat × Nat} (h:w.heap[b]?=some (.cells c t f)) (h2:w.heap[b]?=some (.cells c2 t2 f2)):t=t2:=by
 rw [h] at h2
 injection h2 with h2
 injection h2
theorem row_type {w:World} {base:Nat} {e:TypeId} {size:Nat} {v:Value} {n b:Nat} {xs:List Value} (h:w.ownsRow base e size v n xs) (hb:v.ownBlock=some b):∃cur,w.heap[b]?=some (.cells cur e (0,0)):=by
 rcases h.2 with ⟨rfl,rfl⟩ | ⟨g,cap,cur,rfl,_,hh,_⟩
 ·cases hb
 ·simp only [Value.ownBlock,Option.some.injEq] at hb
  subst hb
  exact ⟨cur,hh⟩
theorem DiskIs.kinds {w:World} {sectors:Nat} {g:Gh} {k:Dk} (h:DiskIs w sectors g k) {b:Nat} (hb:g.has b) {c:Array Value} {t:TypeId} {f:Nat × Nat} (ht:w.heap[b]?=some (.cells c t f)):t=9\/t=218:=by
 rcases hb with hb | rfl | hb
 ·obtain ⟨cur,hc⟩:=row_type h.sure hb
  exact .inl (type_ne ht hc)
 ·obtain ⟨Dm,⟨es,clock,hm,_⟩,_⟩:=h.map
  rw [hm] at ht
  cases ht
 ·obtain ⟨cur,hc⟩:=row_type h.waits hb
  exact .inr (type_ne ht hc)
section
variable {w:World} {p D:Nat} {S:Sf} {F:Nat->Prop} {gs:Nat->Gh} (h:ShelfIs w p S F D gs)
include h
theorem ShelfIs.rowBlock:∃cur,w.heap[D]?=some (.cells cur 120 (0,0)):=row_type h.row rfl
theorem ShelfIs.pD:p≠D:=by
 rintro rfl
 obtain ⟨cur,hc⟩:=h.rowBlock
 exact absurd (type_ne h.root hc) (by decide)
theorem ShelfIs.nD {i:Nat} (hi:i<S.disks.length):¬(gs i).has D:=by
 intro e
 obtain ⟨cur,hc⟩:=h.rowBlock
 rcases (h.diskOf hi).kinds e hc with e | e<;>exact absurd e (by decide)
theorem ShelfIs.np {i:Nat} (hi:i<S.disks.length):¬(gs i).has p:=by
 intro e
 rcases (h.diskOf hi).kinds e h.root with e | e<;>exact absurd e (by decide)
theorem ShelfIs.plt:p<w.heap.size:=h.ltF p h.inF.1
theorem ShelfIs.Dlt:D<w.heap.size:=h.ltF D h.inF.2.1
end
def Moves (F:Nat->Prop) (w:World) (F':Nat->Prop) (w':World):Prop:=Only F w w'/\∀b,F' b->F b\/w.heap.size<=b
theorem Moves.trans {F F1 F2:Nat->Prop} {w w1 w2:World} (h:Moves F w F1 w1) (k:Moves F1 w1 F2 w2):Moves F w F2 w2 :=
 ⟨h.1.trans k.1 h.2,fun b hb=>(k.2 b hb).elim (h.2 b) (fun e=>.inr (Nat.le_trans h.1.size e))⟩
theorem Moves.refl (F:Nat->Prop) (w:World):Moves F w F w:=⟨Only.refl _ _,fun _ h=>.inl h⟩
def Shelf (w:World) (p:Nat) (S:Sf) (F:Nat->Prop):Prop:=∃D gs,ShelfIs w p S F D gs
def Left (F:Nat->Prop) (w:World) (p:Nat) (S:Sf) (w':World):Prop:=∃F',Shelf w' p S F'/\Moves F w F' w'
def upd (gs:Nat->Gh) (i:Nat) (g:Gh) (j:Nat):Gh:=if j=i then g else gs j
theorem getD_set (l:List Dk) (i j:Nat) (k:Dk) (hi:i<l.length):(l.set i k).getD j default=if j=i then k else l.getD j default:=by
 by_cases e:j=i
 ·subst e;simp [List.getD,hi]
 ·simp [List.getD,e,List.getElem?_set_ne (Ne.symm e)]
theorem ShelfIs.turned {w w':World} {p D:Nat} {S:Sf} {F:Nat->Prop} {gs:Nat->Gh} (h:ShelfIs w p S F D gs) {i:Nat} (hi:i<S.disks.length) (g':Gh) (k':Dk) (off:Bool) (left:Nat) (count:Int)
  (hleft:left<=9223372036854775807)
  (root:w'.heap[p]?=some (.cells #[.bool off,.int .i64 (left:Int),.slice (some ⟨D,0,none⟩) S.disks.length S.disks.length,.int .i64 (S.sectors:Int),.int .i64 count] 115 (0,0)))
  (row:w'.ownsRow 0 120 4 (.slice (some ⟨D,0,none⟩) S.disks.length S.disks.length) S.disks.length (rowOf (fun a c=>if a=i then diskV g' k'.dead c else diskV (gs a) (S.disks.getD a default).dead c) S.disks.length 4))
  (disk:DiskIs w' S.sectors g' k')
  (keep:∀b,F b->b≠p->b≠D->¬(gs i).has b->w'.heap[b]?=w.heap[b]?)
  (size:w.heap.size<=w'.heap.size) (new:∀b,g'.has b->(gs i).has b\/w.heap.size<=b) :
  ShelfIs w' p { disks:=S.disks.set i k',sectors:=S.sectors,count:=count,off:=off,left:=left } (fun b=>F b\/g'.has b) D (upd gs i g') where
 some_:=by simpa using h.some_
 most:=by simpa using h.most
 sec1:=h.sec1
 secM:=h.secM
 left:=hleft
 root:=by simpa using root
 row:=by
  have e:rowOf (fun a c=>diskV (upd gs i g' a) (((S.disks.set i k').getD a default).dead) c) S.disks.length 4=rowOf (fun a c=>if a=i then diskV g' k'.dead c else diskV (gs a) (S.disks.getD a default).dead c) S.disks.length 4:=by
   refine rowOf_congr (by decide) fun a c ha _=>?_
   rw [getD_set _ _ _ _ hi]
   by_cases e:a=i
   ·rw [if_pos e,if_pos e,upd,if_pos e]
   ·rw [if_neg e,if_neg e,upd,if_neg e]
  simp only [List.length_set]
  rw [e]
  exact row
 disk:=by
  intro j k hj
  simp only at hj
  rw [List.getElem?_set] at hj
  by_cases e:i=j
  ·subst e
   rw [if_pos rfl,if_pos hi] at hj
   injection hj with hj
   subst hj
   rw [upd,if_pos rfl]
   exact disk
  ·rw [if_neg e] at hj
   rw [upd,if_neg (Ne.symm e)]
   have hjl:j<S.disks.length:=(List.getElem?_eq_some_iff.1 hj).1
   refine (h.disk j k hj).same fun b hb=>?_
   have hF:=h.inF.2.2 j b hjl hb
   refine keep b hF ?_ ?_ (h.apart j i b hjl hi (Ne.symm e) hb)
   ·rintro rfl;exact h.np hjl hb
   ·rintro rfl;exact h.nD hjl hb
 apart:=by
  intro a c b ha hc hne hab hcb
  simp only [List.length_set] at ha hc
  unfold upd at hab hcb
  by_cases ea:a=i
  ·rw [if_pos ea] at hab
   rw [if_neg (by omega)] at hcb
   rcases new b hab with e | e
   ·exact h.apart i c b hi hc (by omega) e hcb
   ·have:=h.ltF b (h.inF.2.2 c b hc hcb);omega
  ·rw [if_neg ea] at hab
   by_cases ec:c=i
   ·rw [if_pos ec] at hcb
    rcases new b hcb with e | e
    ·exact h.apart a i b ha hi ea hab e
    ·have:=h.ltF b (h.inF.2.2 a b ha hab);omega
   ·rw [if_neg ec] at hcb
    exact h.apart a c b ha hc hne hab hcb
 inF:=by
  refine ⟨.inl h.inF.1,.inl h.inF.2.1,fun a b ha hb=>?_⟩
  simp only [List.length_set] at ha
  unfold upd at hb
  by_cases ea:a=i
  ·rw [if_pos ea] at hb;exact .inr hb
  ·rw [if_neg ea] at hb;exact .inl (h.inF.2.2 a b ha hb)
 ltF:=by
  rintro b (hb | hb)
  ·have:=h.ltF b hb;omega
  ·exact disk.lt hb
theorem ShelfIs.rooted {w w':World} {p D:Nat} {S:Sf} {F:Nat->Prop} {gs:Nat->Gh} (h:ShelfIs w p S F D gs) (off:Bool) (left:Nat) (count:Int) (hleft:left<=9223372036854775807)
  (root:w'.heap[p]?=some (.cells #[.bool off,.int .i64 (left:Int),.slice (some ⟨D,0,none⟩) S.disks.length S.disks.length,.int .i64 (S.sectors:Int),.int .i64 count] 115 (0,0)))
  (keep:∀b,F b->b≠p->w'.heap[b]?=w.heap[b]?) (size:w.heap.size<=w'.heap.size) :
  ShelfIs w' p { S with count:=count,off:=off,left:=left } F D gs where
 some_:=h.some_
 most:=h.most
 sec1:=h.sec1
 secM:=h.secM
 left:=hleft
 root:=root
 row:=same_row h.row fun b hb=>by
  injection hb with hb
  subst hb
  exact keep _ h.inF.2.1 (Ne.symm h.pD)
 disk:=fun j k hj=>(h.disk j k hj).same fun b hb=>keep b (h.inF.2.2 j b (List.getElem?_eq_some_iff.1 hj).1 hb) (by rintro rfl;exact h.np (List.getElem?_eq_some_iff.1 hj).1 hb)
 apart:=h.apart
 inF:=h.inF
 ltF:=fun b hb=>by have:=h.ltF b hb;omega
theorem ShelfIs.same {w w':World} {p D:Nat} {S:Sf} {F:Nat->Prop} {gs:Nat->Gh} (h:ShelfIs w p S F D gs) (keep:∀b,F b->w'.heap[b]?=w.heap[b]?) (size:w.heap.size<=w'.heap.size):ShelfIs w' p S F D gs:=by
 have:=h.rooted (w':=w') S.off S.left S.count h.left ((keep p h.inF.1).trans h.root) (fun b hb _=>keep b hb) size
 simpa using this
theorem Shelf.only {w w':World} {p:Nat} {S:Sf} {F G:Nat->Prop} (h:Shelf w p S F) (hO:Only G w w') (hd:∀b,F b->¬G b):Shelf w' p S F:=by
 obtain ⟨D,gs,h⟩:=h
 exact ⟨D,gs,h.same (fun b hb=>hO.block b (h.ltF b hb) (hd b hb)) hO.size⟩
theorem Shelf.ltF {w:World} {p:Nat} {S:Sf} {F:Nat->Prop} (h:Shelf w p S F) {b:Nat} (hb:F b):b<w.heap.size:=by
 obtain ⟨D,gs,h⟩:=h
 exact h.ltF b hb
/-! ### the power -/
theorem spend_none (w:World) (p:Nat) (c1:w.cell? ⟨p,1,none⟩=some (.int .i64 0)) :
  Calls Tryz.prog 262 #[.pointer (some ⟨p,0,none⟩)] w fun e w'=>e=.returned (.tuple #[])/\w=w':=by
 go_enter Tryz.func262,Tryz.ntmps262
 go_wp2
 go_end0
 exact ⟨rfl,rfl⟩
theorem spend_some (w:World) (p n:Nat) (off:Bool) (hn:0<n) (hm:n<=9223372036854775807) (c0:w.cell? ⟨p,0,none⟩=some (.bool off)) (c1:w.cell? ⟨p,1,none⟩=some (.int .i64 (n:Int))) (f0:w.frozen? ⟨p,0,none⟩=false) (f1:w.frozen? ⟨p,1,none⟩=false) :
  Calls Tryz.prog 262 #[.pointer (some ⟨p,0,none⟩)] w fun e w'=>e=.returned (.tuple #[])/\w'=(w.setCell ⟨p,1,none⟩ (.int .i64 ((n-1:Nat):Int))).setCell ⟨p,0,none⟩ (.bool (decide (n=1))):=by
 have hn1:(n:Int)-1=((n-1:Nat):Int):=by omega
 by_cases h1:n=1
 ·subst h1
  go_enter Tryz.func262,Tryz.ntmps262
  go_wp2
  go_end0
  exact ⟨rfl,rfl⟩
 ·have hq:(((n-1:Nat):Int) == 0)=false:=by rw [beq_eq_false_iff_ne];omega
  have hd:=hid (show decide (n=1)=false by simp [h1])
  clear h1
  go_enter Tryz.func262,Tryz.ntmps262
  go_wp2
  go_end0
  exact ⟨rfl,by rw [hd.out]⟩
theorem cells_set {w:World} {b i:Nat} {c:Array Value} {t:TypeId} (v:Value) (h:w.heap[b]?=some (.cells c t (0,0))):(w.setCell ⟨b,i,none⟩ v).heap[b]?=some (.cells (c.setIfInBounds i v) t (0,0)):=heap_setCell_same w b i c t v h
theorem heap_set_other (w:World) (a:Addr) (v:Value) {k:Nat} (h:k≠a.block):(w.setCell a v).heap[k]?=w.heap[k]?:=Below.heap_setCell _ _ _ _ h
def offAt (left:Nat) (off:Bool):Bool:=if left=0 then off else decide (left=1)
noncomputable def powered (w:World) (p left:Nat):World:=if left=0 then w else (w.setCell ⟨p,1,none⟩ (.int .i64 ((left-1:Nat):Int))).setCell ⟨p,0,none⟩ (.bool (decide (left=1)))
theorem powered_other (w:World) (p left:Nat) {k:Nat} (h:k≠p):(powered w p left).heap[k]?=w.heap[k]?:=by
 unfold powered
 split
 ·rfl
 ·rw [heap_set_other _ _ _ h,heap_set_other _ _ _ h]
theorem powered_root {w:World} {p left:Nat} {off:Bool} {x y z:Value} {t:TypeId} (h:w.heap[p]?=some (.cells #[.bool off,.int .i64 (left:Int),x,y,z] t (0,0))) :
  (powered w p left).heap[p]?=some (.cells #[.bool (offAt left off),.int .i64 ((left-1:Nat):Int),x,y,z] t (0,0)):=by
 unfold powered offAt
 split
 ·rename_i e
  subst e
  exact h
 ·rw [cells_set _ (cells_set _ h)]
  rfl
theorem powered_only {F:Nat->Prop} {w w1:World} {p:Nat} (h:Only F w w1) (hp:F p) (left:Nat):Only F w (powered w1 p left):=by
 unfold powered
 split
 ·exact h
 ·exact (h.setCell (.inl hp) _).setCell (.inl hp) _
theorem powered_size (w:World) (p left:Nat):(powered w p left).heap.size=w.heap.size:=by
 unfold powered
 split<;>simp
theorem spend_any (w:World) (p n:Nat) (off:Bool) (hm:n<=9223372036854775807) (c0:w.cell? ⟨p,0,none⟩=some (.bool off)) (c1:w.cell? ⟨p,1,none⟩=some (.int .i64 (n:Int))) (f0:w.frozen? ⟨p,0,none⟩=false) (f1:w.frozen? ⟨p,1,none⟩=false) :
  Calls Tryz.prog 262 #[.pointer (some ⟨p,0,none⟩)] w fun e w'=>e=.returned (.tuple #[])/\w'=powered w p n:=by
 rcases Nat.eq_zero_or_pos n with rfl | hn
 ·exact (spend_none w p c1).mono fun e w' ⟨h1,h2⟩=>⟨h1,by rw [<- h2];rfl⟩
 ·exact (spend_some w p n off hn hm c0 c1 f0 f1).mono fun e w' ⟨h1,h2⟩=>⟨h1,by rw [h2,powered,if_neg (by omega)]⟩
def oneF (p:Nat) (g:Gh) (b:Nat):Prop:=b=p\/g.has b
theorem turn_disk {w w2:World} {p D:Nat} {S:Sf} {F:Nat->Prop} {gs:Nat->Gh} (h:ShelfIs w p S F D gs) {d:Nat} (hd:d<S.disks.length) (k':Dk) (v:Value) (cnt:Int)
  (hdead:k'.dead=(S.disks.getD d default).dead)
  (hO:Only (oneF p (gs d)) w w2)
  (hroot:w2.heap[p]?=some (.cells #[.bool S.off,.int .i64 (S.left:Int),.slice (some ⟨D,0,none⟩) S.disks.length S.disks.length,.int .i64 (S.sectors:Int),.int .i64 cnt] 115 (0,0)))
  (hdisk:DiskIs w2 S.sectors { s:=(gs d).s,m:=(gs d).m,v:=v } k')
  (hnew:∀b,v.ownBlock=some b->(gs d).v.ownBlock=some b\/w.heap.size<=b) :
  Left F w p { disks:=S.disks.set d k',sectors:=S.sectors,count:=cnt,off:=offAt S.left S.off,left:=S.left-1 } (powered (w2.setCell ⟨D,d*4+1,none⟩ v) p S.left):=by
 have hDF:¬oneF p (gs d) D:=fun e=>e.elim (fun e=>h.pD e.symm) (h.nD hd)
 have hD2:w2.heap[D]?=w.heap[D]?:=hO.block D h.Dlt hDF
 have hrow2:=same_row (w':=w2) h.row fun b hb=>by injection hb with hb;subst hb;exact hD2
 have hrow3:=(hrow2.stored (d*4+1) v).1
 rw [rowOf_set _ (by decide)] at hrow3
 have hvD:¬(Gh.has { s:=(gs d).s,m:=(gs d).m,v:=v } D):=by
  intro e
  obtain ⟨cur,hc⟩:=row_type hrow2 rfl
  rcases hdisk.kinds e hc with e | e<;>exact absurd e (by decide)
 have hOF:Only F w w2:=hO.mono fun b hb=>hb.elim (fun e=>e▸h.inF.1) (h.inF.2.2 d b hd)
 have hO4:Only F w (powered (w2.setCell ⟨D,d*4+1,none⟩ v) p S.left):=powered_only (hOF.setCell (.inl h.inF.2.1) v) h.inF.1 _
 have hs4:(powered (w2.setCell ⟨D,d*4+1,none⟩ v) p S.left).heap.size=w2.heap.size:=by rw [powered_size];simp
 refine ⟨_,⟨D,_,h.turned hd { s:=(gs d).s,m:=(gs d).m,v:=v } k' (offAt S.left S.off) (S.left-1) cnt (by have:=h.left;omega) ?_ ?_ ?_ ?_ hO4.size ?_⟩,hO4,?_⟩
 ·exact powered_root (by rw [heap_set_other _ _ _ h.pD];exact hroot)
 ·refine same_row ?_ (fun b hb=>by injection hb with hb;subst hb;exact powered_other _ _ _ (Ne.symm h.pD))
  have e:rowOf (fun a c=>if a=d/\c=1 then v else diskV (gs a) (S.disks.getD a default).dead c) S.disks.length 4=rowOf (fun a c=>if a=d then diskV { s:=(gs d).s,m:=(gs d).m,v:=v } k'.dead c else diskV (gs a) (S.disks.getD a default).dead c) S.disks.length 4:=by
   refine rowOf_congr (by decide) fun a c _ hc=>?_
   by_cases ea:a=d
   ·subst ea
    rw [if_pos rfl,hdead]
    match c,hc with
    | 0,_=>simp [diskV]
    | 1,_=>simp [diskV]
    | 2,_=>simp [diskV]
    | 3,_=>simp [diskV]
   ·rw [if_neg ea,if_neg (fun h=>ea h.1)]
  rw [<- e]
  exact hrow3
 ·refine hdisk.same fun b hb=>?_
  rw [powered_other,heap_set_other]
  ·rintro rfl;exact hvD hb
  ·rintro rfl
   rcases hdisk.kinds hb hroot with e | e<;>exact absurd e (by decide)
 ·intro b hb hbp hbD hbg
  rw [powered_other _ _ _ hbp,heap_set_other _ _ _ hbD]
  exact hO.block b (h.ltF b hb) (fun e=>e.elim hbp hbg)
 ·intro b hb
  rcases hb with hb | hb | hb
  ·exact .inl (.inl hb)
  ·exact .inl (.inr (.inl hb))
  ·exact (hnew b hb).imp (fun e=>.inr (.inr e)) id
 ·rintro b (hb | hb)
  ·exact .inl hb
  ·rcases hb with hb | hb | hb
   ·exact .inl (h.inF.2.2 d b hd (.inl hb))
   ·exact .inl (h.inF.2.2 d b hd (.inr (.inl hb)))
   ·exact (hnew b hb).imp (fun e=>h.inF.2.2 d b hd (.inr (.inr e))) id
def Sf.doWrite (S:Sf) (d n:Nat) (b:Bs):Sf :=
 { disks:=S.disks.set d ((S.disks.getD d default).write n b),sectors:=S.sectors,count:=wrap64 (S.count+1),off:=offAt S.left S.off,left:=S.left-1 }
theorem write_why (w:World) (p d n:Nat) {A:Option Addr} {c:Nat} {S:Sf} {F:Nat->Prop} (h:Shelf w p S F) (hd:d<S.disks.length) (hn:n<S.sectors) (hw:why S d≠0) :
  Calls Tryz.prog 223 #[.pointer (some ⟨p,0,none⟩),.int .i64 d,.int .i64 n,.slice A 128 c] w fun e w'=>e=.returned (.int .i64 (why S d))/\w=w':=by
 obtain ⟨D,gs,h⟩:=h
 have hr:=hid (refusal_any h d hd)
 have hc:=hid (hasSector_yes h d n hd hn)
 have hq:(why S d == 0)=false:=by rw [beq_eq_false_iff_ne];exact hw
 clear h
 unfold RefusedAs at hr
 generalize why S d=y at *
 clear hw
 go_enter Tryz.func223,Tryz.ntmps223
 go_wp2_with (first
  | (go_at_call 260;refine hc.out.mono ?_;rintro e w' ⟨rfl,rfl⟩)
  | (go_at_call 259;refine hr.out.mono ?_;rintro e w' ⟨rfl,rfl⟩))
 go_ret
 exact ⟨rfl,rfl⟩
set_option maxRecDepth 20000 in
set_option maxHeartbeats 800000 in
theorem write_done (w:World) (p d n:Nat) (b:Bs) {A:Option Addr} {c:Nat} {S:Sf} {F:Nat->Prop} (h:Shelf w p S F) (hd:d<S.disks.length) (hn:n<S.sectors) (hw:why S d=0) (hL:(S.disks.getD d default).waits.length<1099511627776)
  (hb:Sec b) (hr:Reads w w.heap.size A 128 (bts b)) (hA:∀a,A=some a->¬F a.block) :
  Calls Tryz.prog 223 #[.pointer (some ⟨p,0,none⟩),.int .i64 d,.int .i64 n,.slice A 128 c] w fun e w'=>e=.returned (.int .i64 0)/\Left F w p (S.doWrite d n b) w':=by
 obtain ⟨D,gs,h⟩:=h
 have hrf:=refusal_any h d hd
 unfold RefusedAs at hrf
 rw [hw] at hrf
 have HR:=hid hrf
 have HC:=hid (hasSector_yes h d n hd hn)
 have c4:=h.c4
 have f4:=h.free 4
 have c2:=h.c2
 have hm:=h.most
 have hpD:=h.pD
 have hnD:=h.nD hd
 have hnp:=h.np hd
 have hplt:=h.plt
 have hDlt:=h.Dlt
 -- the world behind the count
 have hroot1:=cells_set (i:=4) (.int .i64 (wrap64 (S.count+1))) h.root
 have hO1:Only F w (w.setCell ⟨p,4,none⟩ (.int .i64 (wrap64 (S.count+1)))):=(Only.refl F w).setCell (.inl h.inF.1) _
 have hrd:Reads (w.setCell ⟨p,4,none⟩ (.int .i64 (wrap64 (S.count+1)))) w.heap.size A 128 (bts b):=by
  refine ⟨hr.1,fun h0=>?_⟩
  obtain ⟨ad,e,hlt,hc⟩:=hr.2 h0
  exact ⟨ad,e,hlt,fun j u hu=>(cell_set_other w ⟨p,4,none⟩ (ad.add j) _ (by rw [block_of_add];rintro rfl;exact hA ad e h.inF.1)).trans (hc j u hu)⟩
 generalize hc1:S.count=cnt at *
 go_enter Tryz.func223,Tryz.ntmps223
 go_wp2_with (first
  | (go_at_call 260;refine HC.out.mono ?_;rintro e w' ⟨rfl,rfl⟩)
  | (go_at_call 259;refine HR.out.mono ?_;rintro e w' ⟨rfl,rfl⟩))
 have hdisk:DiskIs (w.setCell ⟨p,4,none⟩ (.int .i64 (wrap64 (cnt+1)))) S.sectors (gs d) (S.disks.getD d default):=(h.diskOf hd).same fun b' hb'=>heap_set_other w ⟨p,4,none⟩ _ (by rintro rfl;exact hnp hb')
 have hrow1:(w.setCell ⟨p,4,none⟩ (.int .i64 (wrap64 (cnt+1)))).ownsRow 0 120 4 (.slice (some ⟨D,0,none⟩) S.disks.length S.disks.length) S.disks.length (rowOf (fun i c=>diskV (gs i) ((S.disks.getD i default).dead) c) S.disks.length 4) :=
  same_row h.row fun b' hb'=>heap_set_other w ⟨p,4,none⟩ _ (by injection hb' with e;subst e;exact Ne.symm hpD)
 have hc2:=cell_of_row _ _ 2 _ _ _ hroot1
 have hsame1:∀b',b'≠p->(w.setCell ⟨p,4,none⟩ (.int .i64 (wrap64 (cnt+1)))).heap[b']?=w.heap[b']?:=fun b' hb'=>heap_set_other w ⟨p,4,none⟩ _ hb'
 have hsz1:(w.setCell ⟨p,4,none⟩ (.int .i64 (wrap64 (cnt+1)))).heap.size=w.heap.size:=by simp
 clear c4 f4 c2 HR HC
 generalize w.setCell ⟨p,4,none⟩ (.int .i64 (wrap64 (cnt+1)))=w1 at *
 have kd1:=cell_at hrow1 (rowOf_at _ hd (c:=1) (by decide))
 have kd2:=cell_at hrow1 (rowOf_at _ hd (c:=2) (by decide))
 have kf1:=hrow1.frozenAt (d*4+1)
 have HDW:=hid (dwrite_any w1.drew D (d*4) S.sectors n b (gs d) (S.disks.getD d default) (hdisk.same fun _ _=>rfl) hn h.secM hnD hL kd1 kf1 kd2)
 have hstr:=run_str c (w:=w1.drew) (show Reads w1.drew _ _ _ _ from hrd)
 have HO1:=hid hO1
 have HD:=hid hdisk
 have HROOT:=hid hroot1
 have HH:=hid h
 have HS1:=hid hsame1
 have HS:=hid (show sv b=.string (strL b) from rfl)
 clear hO1 hdisk hrow1 hroot1 h hsame1 hr hA hnD hnp kd1 kd2 kf1
 rw [HS.out] at HDW
 generalize strL b=s at *
 generalize hk:S.disks.length=k at *
 go_still_tail 9,(by kernel_rfl)
 change wpList _ _ _ _ _ w1.drew
 go_wp2_with (go_at_call 261;refine HDW.out.mono ?_;rintro e w' ⟨rfl,w2,v,rfl,hO2,hrow2,hmap2,hlie2⟩)
 subst hk
 have hp2:¬(p=(gs d).m\/(gs d).v.ownBlock=some p):=fun e=>HH.out.np hd (e.elim (fun e=>.inr (.inl e.symm)) (fun e=>.inr (.inr e)))
 have hroot2:w2.heap[p]?=some (.cells #[.bool S.off,.int .i64 (S.left:Int),.slice (some ⟨D,0,none⟩) S.disks.length S.disks.length,.int .i64 (S.sectors:Int),.int .i64 (wrap64 (cnt+1))] 115 (0,0)):=(hO2.block p (by show p<w1.heap.size;omega) hp2).trans HROOT.out
 have hroot3:(w2.setCell ⟨D,d*4+1,none⟩ v).heap[p]?=_:=(heap_set_other w2 ⟨D,d*4+1,none⟩ v hpD).trans hroot2
 have hO:Only (oneF p (gs d)) w w2:=by
  refine Only.trans (F':=fun b'=>b'=(gs d).m\/(gs d).v.ownBlock=some b') (w1:=w1.drew) ?_ hO2 (fun b' hb'=>.inl (.inr (hb'.elim (fun e=>.inr (.inl e.symm)) (fun e=>.inr (.inr e)))))
  exact ⟨HO1.out.os,HO1.out.tape,HO1.out.output,HO1.out.size,fun k hk hn=>HS1.out k (fun e=>hn (.inl e))⟩
 have hsm:∀b',(gs d).s.ownBlock=some b'->w2.heap[b']?=w1.drew.heap[b']?:=fun b' hb'=>hO2.block b' (HD.out.lt (.inl hb')) (fun e=>e.elim (fun e=>row_ne_map HD.out.sure HD.out.map (by rw [hb',e])) (row_ne_row HD.out.sure HD.out.waits (by decide) hb'))
 have hdisk2:DiskIs w2 S.sectors { s:=(gs d).s,m:=(gs d).m,v:=v } ((S.disks.getD d default).write n b):=by
  refine ⟨HD.out.len,same_row HD.out.sure hsm,HD.out.secs,?_,?_,?_⟩
  ·have e:((S.disks.getD d default).write n b).waits.length=(S.disks.getD d default).waits.length+1:=by simp [Dk.write]
   rw [e]
   exact hrow2
  ·intro x hx
   rcases List.mem_append.1 hx with hx | hx
   ·exact HD.out.fits x hx
   ·simp at hx;subst hx;exact ⟨hn,hb⟩
  ·have e:((S.disks.getD d default).write n b).waits.length=(S.disks.getD d default).waits.length+1:=by simp [Dk.write]
   rw [e]
   exact hmap2
 have hnew:∀b',v.ownBlock=some b'->(gs d).v.ownBlock=some b'\/w.heap.size<=b':=fun b' hb'=>(hlie2 b' hb').imp id (fun e=>by have e2:w1.drew.heap.size=w1.heap.size:=rfl;omega)
 refine (spend_any _ p S.left S.off HH.out.left (cell_of_row _ _ 0 _ _ _ hroot3) (cell_of_row _ _ 1 _ _ _ hroot3) (frozen_of_row _ _ _ _ _ hroot3) (frozen_of_row _ _ _ _ _ hroot3)).mono ?_
 rintro e w' ⟨rfl,rfl⟩
 have hend:=turn_disk HH.out hd ((S.disks.getD d default).write n b) v (wrap64 (cnt+1)) rfl hO hroot2 hdisk2 hnew
 rw [<- hc1] at hend
 clear hsm hnew hO hdisk2 hroot2 hroot3
 go_wp2
 go_ret
 exact ⟨rfl,hend⟩
theorem strL_data (l:List Nat):(strL l).data.toList=l.map fun x=>UInt8.ofNat x:=by
 unfold strL strOfNums
 simp [Function.comp_def]
theorem strL_size (l:List Nat):(strL l).size=l.length:=by
 have:=congrArg List.length (strL_data l)
 simpa using this
theorem bytesRow_at (l:List Nat) (h:Small l) (G j:Nat) (v:Value) (hj:(bts l)[j]?=some v):(bytesRow (strL l) G)[j]?=some v:=by
 have hlt:j<l.length:=by rw [<- bts_length l];exact (List.getElem?_eq_some_iff.1 hj).1
 have hv:v=.int .u8 ((l[j]:Nat):Int):=by
  simp [bts,hlt] at hj
  exact hj.symm
 subst hv
 have h1:(strL l).data[j]?=some (UInt8.ofNat l[j]):=by
  rw [<- Array.getElem?_toList,strL_data]
  simp [hlt]
 have hb:l[j]<256:=h _ (List.getElem_mem hlt)
 have hsz:j<(strL l).data.size:=by
  have:=(Array.getElem?_eq_some_iff.1 h1).1
  exact this
 unfold bytesRow
 rw [Array.getElem?_append_left (by simpa using hsz),Array.getElem?_map,h1]
 simp [Nat.mod_eq_of_lt hb]
theorem bytes_of (w:World) (l:List Nat) (h:l.length=128):(convert 9 24 (.string (strL l))).run Tryz.prog w=.ok (.slice (some ⟨w.heap.size,0,none⟩) 128 (grownCap w 128 0 5))
   (w.drew.alloc (.cells (bytesRow (strL l) (grownCap w 128 0 5)) 5 ((bytesRow (strL l) (grownCap w 128 0 5)).size,(bytesRow (strL l) (grownCap w 128 0 5)).size+1))):=by
 have:=run_bytes_of_string (P:=Tryz.prog) w 9 24 5 (strL l) Tryz.underlying9 Tryz.underlying24 Tryz.underlying5
 rw [strL_size,h] at this
 exact this
def Bytes (w0 w:World) (A:Option Addr) (l:Bs):Prop :=
 Reads w w.heap.size A 128 (bts l)/\∀a,A=some a->w0.heap.size<=a.block/\∀j,j<128->w.frozen? (a.add j)=false
theorem bytes_new (w:World) (l:Bs) (h:Sec l) (G:Nat) :
  Bytes w (w.drew.alloc (.cells (bytesRow (strL l) G) 5 ((bytesRow (strL l) G).size,(bytesRow (strL l) G).size+1))) (some ⟨w.heap.size,0,none⟩) l:=by
 have e:∀j,(⟨w.heap.size,0,none⟩:Addr).add j=⟨w.heap.size,j,none⟩:=fun j=>by unfold Addr.add;split<;>simp_all
 have hb:(w.drew.alloc (.cells (bytesRow (strL l) G) 5 ((bytesRow (strL l) G).size,(bytesRow (strL l) G).size+1))).heap[w.heap.size]?=_:=heap_alloc_new w.drew _
 have hs:128<=(bytesRow (strL l) G).size:=by
  have:=strL_size l
  rw [h.1] at this
  unfold bytesRow
  have h2:(strL l).data.size=128:=this
  simp [h2]
 refine ⟨⟨by rw [bts_length,h.1],fun _=>⟨_,rfl,by simp,fun j u hu=>?_⟩⟩,fun a ha=>?_⟩
 ·rw [e]
  rw [cell_of_row _ _ j _ _ _ hb]
  exact bytesRow_at l h.2 G j u hu
 ·injection ha with ha
  subst ha
  refine ⟨Nat.le_refl _,fun j hj=>?_⟩
  rw [e]
  simp only [World.frozen?,hb]
  simp
  omega
theorem bytes_new2 (w:World) (l:Bs) (h:Sec l) (G q:Nat) (hq:w.heap.size=q) :
  Bytes w (w.alloc (.cells (bytesRow (strL l) G) 5 ((bytesRow (strL l) G).size,(bytesRow (strL l) G).size+1))).drew (some ⟨q,0,none⟩) l:=by
 subst hq
 exact bytes_new w l h G
def Sf.doRead (S:Sf):Sf:={ S with count:=wrap64 (S.count+1) }
theorem read_why (w:World) (p d n:Nat) {S:Sf} {F:Nat->Prop} (h:Shelf w p S F) (hd:d<S.disks.length) (hn:n<S.sectors) (hw:why S d≠0) :
  Calls Tryz.prog 252 #[.pointer (some ⟨p,0,none⟩),.int .i64 d,.int .i64 n] w fun e w'=>e=.returned (.tuple #[.slice none 0 0,.int .i64 (why S d)])/\w=w':=by
 obtain ⟨D,gs,h⟩:=h
 have hr:=hid (refusal_any h d hd)
 have hc:=hid (hasSector_yes h d n hd hn)
 have hq:(why S d == 0)=false:=by rw [beq_eq_false_iff_ne];exact hw
 clear h
 unfold RefusedAs at hr
 generalize why S d=y at *
 clear hw
 go_enter Tryz.func252,Tryz.ntmps252
 go_wp2_with (first
  | (go_at_call 260;refine hc.out.mono ?_;rintro e w' ⟨rfl,rfl⟩)
  | (go_at_call 259;refine hr.out.mono ?_;rintro e w' ⟨rfl,rfl⟩))
 go_ret2
 exact ⟨rfl,rfl⟩
def ReadIs (F:Nat->Prop) (w:World) (p:Nat) (S:Sf) (b:Bs) (e:Ending) (w':World):Prop :=
 ∃A c,e=.returned (.tuple #[.slice A 128 c,.int .i64 0])/\Bytes w w' A b/\Shelf w' p S.doRead F/\Only F w w'
theorem DiskIs.val {w:World} {sectors n:Nat} {g:Gh} {k:Dk} (h:DiskIs w sectors g k) (hn:n<sectors):Sec (k.val n):=by
 have hm:k.sure.getD n []∈k.sure:=by
  have:n<k.sure.length:=by rw [h.len];exact hn
  simp [List.getD,this]
 have hs:=h.secs _ hm
 rcases hj:lastOf k.waits n with _ | j
 ·show Sec (latest k.waits n (k.sure.getD n []))
  rw [lastOf_none _ hj];exact hs
 ·have:=(lastOf_some (k.sure.getD n []) hj).2
  exact (h.fits _ (List.mem_of_getElem? this)).2
theorem settled_disk {w w2:World} {sectors:Nat} {g:Gh} {k:Dk} (kp:Nat->Bool) (h:DiskIs w sectors g k) (hr:SetRel w w2 g k kp sectors k.waits.length) :
  DiskIs w2 sectors { s:=g.s,m:=g.m,v:=.slice none 0 0 } (k.settle kp) where
 len:=by show (stl kp k.waits 0 k.sure).length=sectors;rw [stl_length];exact h.len
 sure:=by have:=hr.sure;rw [stlTo_all] at this;exact this
 secs:=stl_all (p:=Sec) kp k.waits 0 k.sure (fun x hx=>(h.fits x hx).2) h.secs
 waits:=World.ownsRow_nil _ _ _ _
 fits:=fun x hx=>by cases hx
 map:=by
  have:=hr.map
  rw [leftOf_all] at this
  exact this.empty
theorem flush_why (w:World) (p d:Nat) {S:Sf} {F:Nat->Prop} (h:Shelf w p S F) (hd:d<S.disks.length) (hw:why S d≠0) :
  Calls Tryz.prog 224 #[.pointer (some ⟨p,0,none⟩),.int .i64 d] w fun e w'=>e=.returned (.int .i64 (why S d))/\w=w':=by
 obtain ⟨D,gs,h⟩:=h
 have hr:=hid (refusal_any h d hd)
 have hc:=hid (hasDisk_yes h d hd)
 have hq:(why S d == 0)=false:=by rw [beq_eq_false_iff_ne];exact hw
 clear h
 unfold RefusedAs at hr
 generalize why S d=y at *
 clear hw
 go_enter Tryz.func224,Tryz.ntmps224
 go_wp2_with (first
  | (go_at_call 217;refine hc.out.mono ?_;rintro e w' ⟨rfl,rfl⟩)
  | (go_at_call 259;refine hr.out.mono ?_;rintro e w' ⟨rfl,rfl⟩))
 go_ret
 exact ⟨rfl,rfl⟩
def Sf.doFlush (S:Sf) (d:Nat):Sf :=
 { disks:=S.disks.set d ((S.disks.getD d default).settle (fun _=>true)),sectors:=S.sectors,count:=wrap64 (S.count+1),off:=offAt S.left S.off,left:=S.left-1 }
set_option maxRecDepth 20000 in
set_option maxHeartbeats 800000 in
theorem flush_done (w:World) (p d:Nat) {S:Sf} {F:Nat->Prop} (h:Shelf w p S F) (hd:d<S.disks.length) (hw:why S d=0) (hL:(S.disks.getD d default).waits.length<1099511627776) :
  Calls Tryz.prog 224 #[.pointer (some ⟨p,0,none⟩),.int .i64 d] w fun e w'=>e=.returned (.int .i64 0)/\Left F w p (S.doFlush d) w':=by
 obtain ⟨D,gs,h⟩:=h
 have hrf:=refusal_any h d hd
 unfold RefusedAs at hrf
 rw [hw] at hrf
 have HR:=hid hrf
 have HC:=hid (hasDisk_yes h d hd)
 have c4:=h.c4
 have f4:=h.free 4
 have c2:=h.c2
 have hm:=h.most
 have hpD:=h.pD
 have h1:ShelfIs (w.setCell ⟨p,4,none⟩ (.int .i64 (wrap64 (S.count+1)))) p S.doRead F D gs:=by
  refine h.rooted S.off S.left (wrap64 (S.count+1)) h.left ?_ (fun b _ hb=>heap_set_other w ⟨p,4,none⟩ _ hb) (by simp)
  rw [cells_set _ h.root];rfl
 have hO1:Only (oneF p (gs d)) w (w.setCell ⟨p,4,none⟩ (.int .i64 (wrap64 (S.count+1)))):=(Only.refl _ w).setCell (.inl (.inl rfl)) _
 have HDW:=hid (settle_all (w.setCell ⟨p,4,none⟩ (.int .i64 (wrap64 (S.count+1)))) D (d*4) S.sectors (gs d) (S.disks.getD d default) (h1.diskOf hd) h.secM (h.nD hd) hL (h1.dc hd (c:=0) (by decide)) (h1.dc hd (c:=1) (by decide)) (h1.dfree (d*4+1)) (h1.dc hd (c:=2) (by decide)))
 have H0:=hid h
 have H1:=hid h1
 have HO:=hid hO1
 clear h1 hO1 h hrf
 generalize hcn:S.count=cnt at *
 generalize hk:S.disks.length=k at *
 go_enter Tryz.func224,Tryz.ntmps224
 go_wp2_with (first
  | (go_at_call 217;refine HC.out.mono ?_;rintro e w' ⟨rfl,rfl⟩)
  | (go_at_call 259;refine HR.out.mono ?_;rintro e w' ⟨rfl,rfl⟩)
  | (go_at_call 117;refine HDW.out.mono ?_;rintro e w' ⟨rfl,w2,rfl,hrel⟩))
 subst hk
 have hroot2:w2.heap[p]?=some (.cells #[.bool S.off,.int .i64 (S.left:Int),.slice (some ⟨D,0,none⟩) S.disks.length S.disks.length,.int .i64 (S.sectors:Int),.int .i64 (wrap64 (cnt+1))] 115 (0,0)):=by
  refine (hrel.only.block p H1.out.plt (fun e=>H0.out.np hd (e.elim (fun e=>.inr (.inl e.symm)) .inl))).trans ?_
  have hx:=H1.out.root
  rw [show S.doRead.count=wrap64 (cnt+1) by rw [<- hcn];rfl] at hx
  exact hx
 have hroot3:(w2.setCell ⟨D,d*4+1,none⟩ (.slice none 0 0)).heap[p]?=_:=(heap_set_other w2 ⟨D,d*4+1,none⟩ (.slice none 0 0) hpD).trans hroot2
 have hO:Only (oneF p (gs d)) w w2:=HO.out.trans hrel.only (fun b hb=>.inl (.inr (hb.elim (fun e=>.inr (.inl e.symm)) .inl)))
 have hdisk2:=settled_disk (fun _=>true) (H1.out.diskOf hd) hrel
 have hend:=turn_disk H0.out hd ((S.disks.getD d default).settle (fun _=>true)) (.slice none 0 0) (wrap64 (cnt+1)) rfl hO hroot2 hdisk2 (fun b hb=>by cases hb)
 refine (spend_any _ p S.left S.off H0.out.left (cell_of_row _ _ 0 _ _ _ hroot3) (cell_of_row _ _ 1 _ _ _ hroot3) (frozen_of_row _ _ _ _ _ hroot3) (frozen_of_row _ _ _ _ _ hroot3)).mono ?_
 rintro e w' ⟨rfl,rfl⟩
 rw [<- hcn] at hend
 clear hO hdisk2 hroot2 hroot3
 go_wp2
 go_ret
 exact ⟨rfl,hend⟩
/-! ### Kill and Stop -/
end Go.Proofs.YtcnjpmcelihknaaGreatDoor.Sh
