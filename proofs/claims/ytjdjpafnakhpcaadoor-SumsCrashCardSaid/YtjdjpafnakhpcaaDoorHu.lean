/-
  The contracts of a nil shelf's calls.
  Conditions: none.
-/
import Derived.Test.YtjdjpafnakhpcaaDoorHq
namespace Go.Proofs.YtjdjpafnakhpcaaDoor.Sh
open Go.RowKit Go.Maps

theorem nilRead (w : World) (d n : Int) : Calls Tryd.prog 35 #[.pointer none, .int .i64 d, .int .i64 n] w fun e w' => e = .returned (.tuple #[.slice none 0 0, .int .i64 2]) ∧ w = w' := by
  go_enter Tryd.func35, Tryd.ntmps35
  go_wp2
  go_ret2
  exact ⟨rfl, rfl⟩
theorem nilWrite (w : World) (d n : Int) (A : Option Addr) (m c : Nat) : Calls Tryd.prog 37 #[.pointer none, .int .i64 d, .int .i64 n, .slice A m c] w fun e w' => e = .returned (.int .i64 2) ∧ w = w' := by
  go_enter Tryd.func37, Tryd.ntmps37
  go_wp2
  go_ret
  exact ⟨rfl, rfl⟩
theorem nilFlush (w : World) (d : Int) : Calls Tryd.prog 53 #[.pointer none, .int .i64 d] w fun e w' => e = .returned (.int .i64 2) ∧ w = w' := by
  go_enter Tryd.func53, Tryd.ntmps53
  go_wp2
  go_ret
  exact ⟨rfl, rfl⟩
theorem nilDead (w : World) (d : Int) : Calls Tryd.prog 72 #[.pointer none, .int .i64 d] w fun e w' => e = .returned (.bool false) ∧ w = w' := by
  go_enter Tryd.func72, Tryd.ntmps72
  go_wp2
  go_ret
  exact ⟨rfl, rfl⟩
theorem nilCorrupt (w : World) (d n a : Int) (x : Nat) : Calls Tryd.prog 34 #[.pointer none, .int .i64 d, .int .i64 n, .int .i64 a, .int .u8 x] w fun e w' => e = .returned (.int .i64 2) ∧ w = w' := by
  go_enter Tryd.func34, Tryd.ntmps34
  go_wp2
  go_ret
  exact ⟨rfl, rfl⟩
theorem nilStop (w : World) (n : Int) : Calls Tryd.prog 27 #[.pointer none, .int .i64 n] w fun e w' => e = .returned (.tuple #[]) ∧ w = w' := by
  go_enter Tryd.func27, Tryd.ntmps27
  go_wp2
  go_end0
  exact ⟨rfl, rfl⟩
theorem nilCrash (w : World) (A : Option Addr) (m c : Nat) : Calls Tryd.prog 32 #[.pointer none, .slice A m c] w fun e w' => e = .returned (.tuple #[]) ∧ w = w' := by
  go_enter Tryd.func32, Tryd.ntmps32
  go_wp2
  refine bodyPost_ret (results_none rfl _ _ _) rfl ?_
  exact ⟨rfl, rfl⟩
theorem nilSize (w : World) : Calls Tryd.prog 58 #[.pointer none] w fun e w' => e = .returned (.tuple #[.int .i64 0, .int .i64 0]) ∧ w = w' := by
  go_enter Tryd.func58, Tryd.ntmps58
  go_wp2
  go_ret2
  exact ⟨rfl, rfl⟩
end Go.Proofs.YtjdjpafnakhpcaaDoor.Sh
