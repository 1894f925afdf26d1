/-
  What the statement's proof rests on, part 13.
  Conditions: each theorem's own.
-/
import Derived.Test.YtcnjpmcelihknaaGreatDoorV11
import Derived.ChangeKeysEq
import Derived.Laws.StructEq
namespace Go.Proofs.YtcnjpmcelihknaaGreatDoor.S
open Go.RowKit
theorem u8_plain:Tryz.prog.plainKey 5=true:=by kernel_rfl
theorem cells_u8:Tryz.prog.cellsOf 5=1:=by kernel_rfl
theorem eqItems_bytes (w:World) (d:Nat) (l k:List Nat):∀is:List Nat,(∀i∈is,i<l.length/\i<k.length) ->
  (Op.eqItems (d+1) 5 1 (bts l).toArray (bts k).toArray is).run Tryz.prog w=.ok (is.all fun i=>l.getD i 0 == k.getD i 0) w
 | [],_=>by simp [Op.eqItems]
 | i :: is,h=>by
  have h1:=h i (by simp)
  have a:(bts l).toArray[i*1]?=some (.int .u8 ((l.getD i 0:Nat):Int)):=by rw [Nat.mul_one,List.getElem?_toArray];exact bts_get l i h1.1
  have b:(bts k).toArray[i*1]?=some (.int .u8 ((k.getD i 0:Nat):Int)):=by rw [Nat.mul_one,List.getElem?_toArray];exact bts_get k i h1.2
  have p1:=run_part_plain (P:=Tryz.prog) (w:=w) u8_plain a
  have p2:=run_part_plain (P:=Tryz.prog) (w:=w) u8_plain b
  have ih:=eqItems_bytes w d l k is (fun j hj=>h j (List.mem_cons_of_mem _ hj))
  have e1:=run_equalIn_int (P:=Tryz.prog) w d 5 .u8 .u8 ((l.getD i 0:Nat):Int) ((k.getD i 0:Nat):Int) Tryz.underlying5
  have e2:(((l.getD i 0:Nat):Int) == ((k.getD i 0:Nat):Int))=(l.getD i 0 == k.getD i 0):=by
   rw [Bool.eq_iff_iff,beq_iff_eq,beq_iff_eq];omega
  rw [e2] at e1
  simp only [Op.eqItems,Sem.run_bind,p1,p2,e1,Result.andThen_ok,List.all_cons]
  by_cases hq:(l.getD i 0 == k.getD i 0)=true
  ·rw [hq]
   simpa using ih
  ·rw [Bool.not_eq_true] at hq
   rw [hq]
   simp
theorem all_eq {l k:List Nat} (hl:l.length=128) (hk:k.length=128):((List.range 128).all fun i=>l.getD i 0 == k.getD i 0)=(l == k):=by
 rw [Bool.eq_iff_iff,beq_iff_eq,List.all_eq_true]
 constructor
 ·intro h
  apply List.ext_getElem (by omega)
  intro i h1 h2
  have:=h i (List.mem_range.2 (by omega))
  rw [beq_iff_eq] at this
  simpa [List.getD,List.getElem?_eq_getElem h1,List.getElem?_eq_getElem h2] using this
 ·rintro rfl i _
  simp
theorem info_arr:∃i,Tryz.prog.info? 5=some i:=info_of_underlying Tryz.underlying5
theorem arr_equal (w:World) (d:Nat) {l k:List Nat} (hl:l.length=128) (hk:k.length=128) :
  (Op.equalIn (d+2) 147 (.agg (bts l).toArray) (.agg (bts k).toArray)).run Tryz.prog w=.ok (l == k) w:=by
 obtain ⟨i,hi⟩:=info_arr
 rw [run_equalIn_array w (d+1) (bts l).toArray (bts k).toArray Tryz.underlying147 hi,cells_u8,eqItems_bytes w d l k (List.range 128) (fun j hj=>by have:=List.mem_range.1 hj;omega),all_eq hl hk]
end Go.Proofs.YtcnjpmcelihknaaGreatDoor.S
