/-
  What math.Floor gives: archFloor, which has no body, by the model; so Steps without its hypothesis on Floor.
  Conditions: x is a number.
-/
import Derived.Test.YthnjnpighnlodaaRst
namespace Go.Proofs.Ythnjnpighnlodaa
open Go.RowKit
theorem find_floor : Extern.find Try.f37 = some (Extern.MathFloor.toIntegral "math.archFloor" .down) := by kernel_rfl
theorem findNext_floor : (Extern.findNext Try.f37).isNone = true := by kernel_rfl
theorem name_floor : (Try.f37.name == "runtime.NumGoroutine") = false := by kernel_rfl
theorem body_floor : Try.f37.body.isNone = true := by kernel_rfl
theorem integral_run {P : Program} (x : Nat) (w : World) (h : ¬ Fl.nan x) : (Extern.MathFloor.toIntegral "math.archFloor" .down #[.float .f64 x]).run P w = .ok (.float .f64 (floorW x)) w := by
  have hn := read_not_nan x h
  unfold floorW
  conv => lhs; arg 2; whnf
  rw [show FloatKind.f64.decode x = Ieee.double.read x from rfl]
  cases hr : Ieee.double.read x with
  | nan s t => exact absurd hr (hn s t)
  | infinity s => rfl
  | number s m e => rfl
theorem run_archFloor (x : Nat) (w : World) (h : ¬ Fl.nan x) : (callFunc 37 #[.float .f64 x]).run Try.prog w = .ok (.value (.float .f64 (floorW x))) w := by
  have h1 := find_floor
  have h2 : Extern.findNext Try.f37 = none := Option.isNone_iff_eq_none.1 findNext_floor
  have h3 : ¬ Try.f37.name = "runtime.NumGoroutine" := by have := name_floor; simpa using this
  have h4 : Try.f37.body = none := Option.isNone_iff_eq_none.1 body_floor
  unfold callFunc
  simp [go_sem, h1, h2, h3, h4]
  rw [integral_run x w h]
  rfl
theorem floor_any (x : Nat) (h : ¬ Fl.nan x) (w : World) : Calls Try.prog 32 #[.float .f64 x] w fun e w' => e = .returned (.float .f64 (floorW x)) ∧ w = w' := by
  have hr := fun w => run_archFloor x w h
  go_enter Try.func32, Try.ntmps32
  go_wp2
  go_ret
  exact ⟨rfl, rfl⟩
theorem steps_ok (x : Nat) (m k : Int) (w : World) (hk : 0 < m → (FloatKind.f64.format.order x 0 == some .gt) = true → (FloatKind.f64.format.order x (floatOfInt .f64 m) == some .gt) = false → (FloatKind.f64.format.order x (floatOfInt .f64 m) == some .eq) = false → floatToIntVal .f64 (floorW x) .i64 = some k) :
    Calls Try.prog 24 #[.float .f64 x, .int .i64 m] w fun e w' => e = .returned (.int .i64 (stepsC x m k)) ∧ w = w' :=
  steps_any x m k w (floor_any x) hk
end Go.Proofs.Ythnjnpighnlodaa
