/-
  What the statement's proof rests on, part 12.
  Conditions: each theorem's own.
-/
import Derived.Test.YtepoepmndckmaaaGreatDoorY09
import Derived.ChangeKeysEq
import Derived.Laws.StructEq
namespace Go.Proofs.YtepoepmndckmaaaGreatDoor.S
open Go.RowKit
theorem u8_plain:Tryz.prog.plainKey 5=true:=by kernel_rfl
theorem cells_u8:Tryz.prog.cellsOf 5=1:=by kernel_rfl
theorem eqItems_bytes (w:World) (d:Nat) (l k:List Nat):∀is:List Nat,(∀i∈is,i<l.length/\i<k.length) ->
  (Op.eqItems (d+1) 5 1 (bts l).toArray (bts k).toArray is).run Tryz.prog w=.ok (is.all fun i=>l.getD i 0 == k.getD i 0) w
 | [],_=>by simp [Op.eqItems]
 | i :: is,h=>by
  have h1:=h i (by simp)
  have a:(bts l).toArray[i*1]?=some (.int .u8 ((l.getD i 0:Nat):Int)):=by rw [Nat.mul_one,List.getElem?_toArray];exact bts_get l i h1.1
  have b:(bts k).toArray[i*1]?=some (.int .u8 ((k.getD i 0:Nat):Int)):=by rw [Nat.mul_one,List.getElem?_toArray];exact bts_get k i h1.2
  have p1:=run_part_plain (P:=Tryz.prog) (w:=w) u8_plain a
  have p2:=run_part_plain (P:=Tryz.prog) (w:=w) u8_plain b
  have ih:=eqItems_bytes w d l k is (fun j hj=>h j (List.mem_cons_of_mem _ hj))
  have e1:=run_equalIn_int (P:=Tryz.prog) w d 5 .u8 .u8 ((l.getD i 0:Nat):Int) ((k.getD i 0:Nat):Int) Tryz.underlying5
  have e2:(((l.getD i 0:Nat):Int) == ((k.getD i 0:Nat):Int))=(l.getD i 0 == k.getD i 0):=by
   rw [Bool.eq_iff_iff,beq_iff_eq,beq_iff_eq];omega
  rw [e2] at e1
  simp only [Op.eqItems,Sem.run_bind,p1,p2,e1,Result.andThen_ok,List.all_cons]
  by_cases hq:(l.getD i 0 == k.getD i 0)=true
  ·rw [hq]
   simpa using ih
  ·rw [Bool.not_eq_true] at hq
   rw [hq]
   simp
theorem all_eq {l k:List Nat} (hl:l.length=128) (hk:k.length=128):((List.range 128).all fun i=>l.getD i 0 == k.getD i 0)=(l == k):=by
 rw [Bool.eq_iff_iff,beq_iff_eq,List.all_eq_true]
 constructor
 ·intro h
  apply List.ext_getElem (by omega)
  intro i h1 h2
  have:=h i (List.mem_range.2 (by omega))
  rw [beq_iff_eq] at this
  simpa [List.getD,List.getElem?_eq_getElem h1,List.getElem?_eq_getElem h2] using this
 ·rintro rfl i _
  simp
set_option maxRecDepth 100000 in
theorem block_fields:Tryz.prog.fieldsOf 220=(match Tryz.prog.underlying 220 with | some (.struct fs)=>fs | _=>#[]):=rfl
theorem block_struct:Tryz.prog.underlying 220=some (.struct (Tryz.prog.fieldsOf 220)):=by
 rw [block_fields,Tryz.underlying220]
theorem block_held:Tryz.prog.stoodInHeld 220=false:=by kernel_rfl
theorem info_arr:∃i,Tryz.prog.info? 5=some i:=info_of_underlying Tryz.underlying5
theorem arr_equal (w:World) (d:Nat) {l k:List Nat} (hl:l.length=128) (hk:k.length=128) :
  (Op.equalIn (d+2) 94 (.agg (bts l).toArray) (.agg (bts k).toArray)).run Tryz.prog w=.ok (l == k) w:=by
 obtain ⟨i,hi⟩:=info_arr
 rw [run_equalIn_array w (d+1) (bts l).toArray (bts k).toArray Tryz.underlying94 hi,cells_u8,eqItems_bytes w d l k (List.range 128) (fun j hj=>by have:=List.mem_range.1 hj;omega),all_eq hl hk]
theorem block_part (w:World) {l:List Nat} (hl:l.length=128):(part 94 (bts l).toArray 0).run Tryz.prog w=.ok (.agg (bts l).toArray) w:=by
 obtain ⟨i,hi⟩:=info_of_underlying (P:=Tryz.prog) Tryz.underlying94
 have hsz:Tryz.prog.cellsOf 94=128:=by kernel_rfl
 have e:(bts l).toArray.extract 0 128=(bts l).toArray:=by
  have:(bts l).toArray.size=128:=by rw [List.size_toArray,bts_length,hl]
  rw [<- this,Array.extract_size]
 have e2:List.take 128 (bts l)=bts l:=List.take_of_length_le (by rw [bts_length,hl];exact Nat.le_refl _)
 have h0:(isAgg 94).run Tryz.prog w=.ok true w:=by simp [isAgg,run_underlying Tryz.underlying94]
 have h1:(sizeOf 94).run Tryz.prog w=.ok 128 w:=by rw [run_sizeOf w hi,hsz]
 unfold part
 simp only [Sem.run_bind,h0,h1,Result.andThen_ok,if_true,Nat.zero_add,e,Sem.run_pure]
theorem eqFields_one {P : Program} (w : World) (d : Nat) (xs ys : Array Value) (f : Field) (hn : f.name ≠ "_") {a b : Value} {r : Bool} (ha : (part f.type xs f.offset).run P w = .ok a w) (hb : (part f.type ys f.offset).run P w = .ok b w)
  (he:(Op.equalIn d f.type a b).run P w=.ok r w):(Op.eqFields d xs ys [f]).run P w=.ok r w:=by
 simp only [Op.eqFields,hn,ne_eq,not_false_eq_true,if_true,Sem.run_bind,ha,hb,he,Result.andThen_ok]
 cases r<;>simp
theorem block_fields2 : ∃ f : Field, f.name = "bytes" /\ f.type = 94 /\ f.offset = 0 /\ (Tryz.prog.fieldsOf 220).toList = [f] := by
 rw [block_fields,Tryz.underlying220]
 exact ⟨_,rfl,rfl,rfl,rfl⟩
theorem block_equal (w:World) (d:Nat) {l k:List Nat} (hl:l.length=128) (hk:k.length=128) :
  (Op.equalIn (d+3) 220 (.agg (bts l).toArray) (.agg (bts k).toArray)).run Tryz.prog w=.ok (l == k) w:=by
 refine (run_equalIn_struct w (d+2) 220 _ _ block_struct block_held).trans ?_
 obtain ⟨f,h1,h2,h3,h4⟩:=block_fields2
 rw [h4]
 exact eqFields_one w (d+2) _ _ f (by rw [h1];decide) (by rw [h2,h3];exact block_part w hl) (by rw [h2,h3];exact block_part w hk) (by rw [h2];exact arr_equal w d hl hk)
end Go.Proofs.YtepoepmndckmaaaGreatDoor.S
