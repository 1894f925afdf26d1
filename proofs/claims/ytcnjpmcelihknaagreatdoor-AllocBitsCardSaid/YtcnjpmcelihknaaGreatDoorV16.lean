/-
  What the statement's proof rests on, part 16.
  Conditions: each theorem's own.
-/
import Derived.Test.YtcnjpmcelihknaaGreatDoorV13
import Derived.Laws.BytesArg
import Derived.Lib.SlBytesConst
namespace Go.Proofs.YtcnjpmcelihknaaGreatDoor
open Go.RowKit
def strL (l:List Nat):ByteArray:=strOfNums (l.map fun (x:Nat)=>(x:Int))
theorem bts_ints (l:List Nat):bts l=(l.map fun (x:Nat)=>(x:Int)).map (Value.int .u8):=by simp [bts]
theorem run_str {w:World} {B n:Nat} {A:Option Addr} {l:List Nat} (c:Nat) (hr:Reads w B A n (bts l)) :
  (convert 24 9 (.slice A n c)).run Tryz.prog w=.ok (.string (strL l)) w:=by
 have hlen:=hr.len
 rcases A with _ | ad
 ·have hn:n=0:=by
   rcases Nat.eq_zero_or_pos n with h | h
   ·exact h
   ·obtain ⟨ad,e,_⟩:=hr.2 h;cases e
  subst hn
  have hl:l=[]:=List.eq_nil_of_length_eq_zero hlen
  subst hl
  exact run_convert_bytes_nil (P:=Tryz.prog) w 24 5 Tryz.underlying24 Tryz.underlying5 0 c 9 Tryz.underlying9
 ·have hcells:∀j v,(bts l)[j]?=some v->w.cell? (ad.add j)=some v:=by
   intro j v hj
   rcases Nat.eq_zero_or_pos n with h | h
   ·have hl:l=[]:=List.eq_nil_of_length_eq_zero (by omega)
    subst hl
    simp [bts] at hj
   ·obtain ⟨ad',e,_,hc⟩:=hr.2 h
    injection e with e
    subst e
    exact hc j v hj
  have hl:(loadCells ad n).run Tryz.prog w=.ok ((l.map fun (x:Nat)=>(x:Int)).map (Value.int .u8)).toArray w:=by
   have:=run_loadCells_list (P:=Tryz.prog) w ad (bts l) hcells
   rw [bts_length,hlen,bts_ints] at this
   exact this
  rw [run_convert_bytes_string w 24 9 5 _ n c Tryz.underlying24 Tryz.underlying5 Tryz.underlying9,run_bytesToString w _ n c _ hl,foldl_push_bytes]
  simp [strL,strOfNums,ByteArray.empty,ByteArray.emptyWithCapacity]
  rfl
theorem below_on {w w1 w2:World} (h:Below w.heap.size w w1) (k:Below w1.heap.size w1 w2):Below w.heap.size w w2:=h.trans (k.mono h.size)
theorem strL_data (l:List Nat):(strL l).data.toList=l.map fun x=>UInt8.ofNat x:=by
 unfold strL strOfNums
 simp [Function.comp_def]
end Go.Proofs.YtcnjpmcelihknaaGreatDoor
