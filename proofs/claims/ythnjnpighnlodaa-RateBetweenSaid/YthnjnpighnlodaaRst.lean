/-
  The contracts of Floor and Steps.
  Conditions: each theorem's own.
-/
import Derived.Test.YthnjnpighnlodaaRs
import Derived.Handy
namespace Go.Proofs.Ythnjnpighnlodaa
open Go.RowKit

def floorW (x : Nat) : Nat := Ieee.double.write ((Ieee.double.read x).integral .down)
theorem read_not_nan (x : Nat) (h : ¬ Fl.nan x) (s : Bool) (t : Nat) : Ieee.double.read x ≠ .nan s t := by
  intro e
  have h1 : Ieee.double.order x x = none := by
    unfold Ieee.Format.order
    rw [e]
    rfl
  rw [Fl.order_key x x h h] at h1
  cases h1
def stepsC (x : Nat) (m k : Int) : Int :=
  if m ≤ 0 then 0 else if !(FloatKind.f64.format.order x 0 == some .gt) then 0 else
  if FloatKind.f64.format.order x (floatOfInt .f64 m) == some .gt || FloatKind.f64.format.order x (floatOfInt .f64 m) == some .eq then m else k
/-- k speaks of the last branch alone: what the floor is, as a whole number; hF: what math.Floor gives there (to be shown of archFloor, which has no body). -/
theorem steps_any (x : Nat) (m k : Int) (w : World) (hF : ¬ Fl.nan x → ∀ w, Calls Try.prog 32 #[.float .f64 x] w fun e w' => e = .returned (.float .f64 (floorW x)) ∧ w = w') (hk : 0 < m → (FloatKind.f64.format.order x 0 == some .gt) = true → (FloatKind.f64.format.order x (floatOfInt .f64 m) == some .gt) = false → (FloatKind.f64.format.order x (floatOfInt .f64 m) == some .eq) = false → floatToIntVal .f64 (floorW x) .i64 = some k) :
    Calls Try.prog 24 #[.float .f64 x, .int .i64 m] w fun e w' => e = .returned (.int .i64 (stepsC x m k)) ∧ w = w' := by
  have HF := Lib.hid hF
  clear hF
  by_cases hm : m ≤ 0
  · have hc : Hid (stepsC x m k = 0) := Lib.hid (if_pos hm)
    clear hk
    go_enter Try.func24, Try.ntmps24
    go_wp2
    go_ret
    exact ⟨by rw [hc.out]; rfl, rfl⟩
  · have hm2 : 0 < m := by omega
    cases h0 : (FloatKind.f64.format.order x 0 == some .gt)
    · have hc : Hid (stepsC x m k = 0) := Lib.hid (by unfold stepsC; rw [if_neg hm, h0]; rfl)
      clear hk
      go_enter Try.func24, Try.ntmps24
      go_wp2
      go_ret
      exact ⟨by rw [hc.out]; rfl, rfl⟩
    · cases h1 : (FloatKind.f64.format.order x (floatOfInt .f64 m) == some .gt)
      · cases h2 : (FloatKind.f64.format.order x (floatOfInt .f64 m) == some .eq)
        · have hc : Hid (stepsC x m k = k) := Lib.hid (by unfold stepsC; rw [if_neg hm, h0, h1, h2]; rfl)
          have hk2 := hk hm2 h0 h1 h2
          have hnn : ¬ Fl.nan x := fun hn => by
            have e0 : FloatKind.f64.format.order x 0 = none := Fl.order_nan_left x 0 hn
            rw [e0] at h0
            cases h0
          have hconv := fun w => run_convert_float_int (P := Try.prog) w 23 3 .f64 .i64 (floorW x) k rfl rfl hk2
          clear hk hk2
          go_enter Try.func24, Try.ntmps24
          go_wp2_with (go_at_call 32; refine (HF.out hnn _).mono ?_; rintro e w' ⟨rfl, rfl⟩)
          go_ret
          exact ⟨by rw [hc.out]; rfl, rfl⟩
        · have hc : Hid (stepsC x m k = m) := Lib.hid (by unfold stepsC; rw [if_neg hm, h0, h1, h2]; rfl)
          clear hk
          go_enter Try.func24, Try.ntmps24
          go_wp2
          go_ret
          exact ⟨by rw [hc.out]; rfl, rfl⟩
      · have hc : Hid (stepsC x m k = m) := Lib.hid (by unfold stepsC; rw [if_neg hm, h0, h1]; rfl)
        clear hk
        go_enter Try.func24, Try.ntmps24
        go_wp2
        go_ret
        exact ⟨by rw [hc.out]; rfl, rfl⟩
end Go.Proofs.Ythnjnpighnlodaa
