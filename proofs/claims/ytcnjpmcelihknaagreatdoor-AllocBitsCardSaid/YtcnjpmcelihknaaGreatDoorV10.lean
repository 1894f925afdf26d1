/-
  What the statement's proof rests on, part 10.
  Conditions: each theorem's own.
-/
import Derived.Test.YtcnjpmcelihknaaGreatDoorV07
import Derived.Laws.Bits128
namespace Go.Proofs.YtcnjpmcelihknaaGreatDoor.S
open Go.RowKit
theorem i64_and1 (n:Int):bits .and .i64 n 1=n%2:=by
 have h1:(BitVec.ofInt 64 1).toNat=2 ^ 1-1:=by decide
 have key:(BitVec.ofInt 64 n &&& BitVec.ofInt 64 1).toNat=(n%((2 ^ 64:Nat):Int)).toNat%2 ^ 1:=by
  rw [BitVec.toNat_and,BitVec.toNat_ofInt,h1,Nat.and_two_pow_sub_one_eq_mod]
 show IntKind.i64.wrap ((BitVec.ofInt 64 n &&& BitVec.ofInt 64 1).toNat:Nat)=n%2
 rw [key,IntKind.wrap_i64]
 omega
theorem slot_any (n:Int) (w:World) (_:-9223372036854775808<=n) (_:n<=9223372036854775807) :
  Calls Tryz.prog 176 #[.int .i64 n] w fun e w'=>e=.returned (.int .i64 (n%2))/\w=w':=by
 have h:=i64_and1 n
 go_enter Tryz.func176,Tryz.ntmps176
 go_wp2
 go_ret
 exact ⟨rfl,rfl⟩
def sup0:Sup:=⟨0,0,0,0,0,0,0,0⟩
section
variable {w w':World} {L n:Nat} {A:Option Addr} {ss:List Sup}
end
end Go.Proofs.YtcnjpmcelihknaaGreatDoor.S
