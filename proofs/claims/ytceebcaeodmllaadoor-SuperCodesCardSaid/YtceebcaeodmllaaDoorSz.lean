/-
  A block's noughts: 128 of them, never written out.
  Conditions: none.
-/
import Derived.Test.YtceebcaeodmllaaDoorSr
namespace Go.Proofs.YtceebcaeodmllaaDoor.S
open Go.RowKit

def zcB : Array Value := (List.replicate 128 (Value.int .u8 0)).toArray
theorem zcB_size : zcB.size = 128 := by simp [zcB]
theorem zcB_ne : zcB ≠ #[] := fun h => by have := congrArg Array.size h; rw [zcB_size] at this; exact absurd this (by decide)
theorem zero_block : ∀ w, (zeroValue 44).run Tryd.prog w = .ok (.agg zcB) w := fun w => by kernel_rfl
theorem zero_bytes : ∀ w, (zeroValue 42).run Tryd.prog w = .ok (.agg zcB) w := fun w => by kernel_rfl
end Go.Proofs.YtceebcaeodmllaaDoor.S
