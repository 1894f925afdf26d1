/-
  The contracts of the definition's Same and Compare, of Part, Mean and Smooth (the program's and the definition's).
  Conditions: each theorem's own.
-/
import Derived.Test.YthnjnpighnlodaaRb
namespace Go.Proofs.Ythnjnpighnlodaa
open Go.RowKit

def sameB (a b : Nat) : Bool := if nanB a || nanB b then nanB a && nanB b else a == b
set_option maxHeartbeats 400000 in
theorem same_any (a b : Nat) (w : World) : Calls Try.prog 14 #[.float .f64 a, .float .f64 b] w fun e w' => e = .returned (.bool (sameB a b)) ∧ w = w' := by
  have ha := o_neq_self a
  have hb := o_neq_self b
  have hr := run_bits
  have hs := Lib.hid (show sameB a b = if nanB a || nanB b then nanB a && nanB b else a == b from rfl)
  have he : (((a : Int)) == ((b : Int))) = (a == b) := by rw [Bool.eq_iff_iff, beq_iff_eq, beq_iff_eq]; omega
  cases na : nanB a <;> cases nb : nanB b <;> rw [na, nb] at hs
  all_goals
    go_enter Try.func14, Try.ntmps14
    go_wp2
    go_ret
    exact ⟨by rw [hs.out]; rfl, rfl⟩
theorem below_any (a : Nat) (w : World) (h : a < 18446744073709551616) : Calls Try.prog 31 #[.float .f64 a] w fun e w' => e = .returned (.bool (Fl.isNeg a)) ∧ w = w' := by
  have hr := run_bits
  have hd : decide ((9223372036854775808 : Int) ≤ (a : Int)) = Fl.isNeg a := by
    unfold Fl.isNeg
    rw [Bool.eq_iff_iff, decide_eq_true_iff, beq_iff_eq]
    omega
  go_enter Try.func31, Try.ntmps31
  go_wp2
  go_ret
  exact ⟨rfl, rfl⟩
theorem T_inj {a b : Nat} (ha : ¬ Fl.nan a) (hb : ¬ Fl.nan b) (la : a < 18446744073709551616) (lb : b < 18446744073709551616) (h : T a = T b) : a = b := by
  have h1 := T_num ha
  have h2 := T_num hb
  have sa : Fl.isNeg a = true ↔ 9223372036854775808 ≤ a := by unfold Fl.isNeg; rw [beq_iff_eq]; omega
  have sb : Fl.isNeg b = true ↔ 9223372036854775808 ≤ b := by unfold Fl.isNeg; rw [beq_iff_eq]; omega
  have ra : Fl.rung a = a % 9223372036854775808 := rfl
  have rb : Fl.rung b = b % 9223372036854775808 := rfl
  cases ea : Fl.isNeg a <;> cases eb : Fl.isNeg b <;> rw [ea] at h1 sa <;> rw [eb] at h2 sb <;> simp only [Bool.false_eq_true, if_false, if_true, false_iff, true_iff] at h1 h2 sa sb <;> omega

set_option maxHeartbeats 800000 in
theorem refCompare_any (a b : Nat) (w : World) (la : a < 18446744073709551616) (lb : b < 18446744073709551616) :
    Calls Try.prog 21 #[.float .f64 a, .float .f64 b] w fun e w' => e = .returned (.int .i64 (cmpT a b)) ∧ w = w' := by
  have HS := Lib.hid same_any
  have HB := Lib.hid below_any
  have ha := o_neq_self a
  have hb := o_neq_self b
  have hsm := Lib.hid (show sameB a b = if nanB a || nanB b then nanB a && nanB b else a == b from rfl)
  by_cases na : Fl.nan a
  · have ea : nanB a = true := decide_eq_true na
    by_cases nb : Fl.nan b
    · have eb : nanB b = true := decide_eq_true nb
      have hs : sameB a b = true := by rw [hsm.out, ea, eb]; rfl
      have hc : Hid (cmpT a b = 0) := Lib.hid (cmpT_eq (by rw [T_nan na, T_nan nb]))
      clear na nb
      go_enter Try.func21, Try.ntmps21
      go_wp2_with (go_at_call 14; refine (HS.out _ _ _).mono ?_; rintro e w' ⟨rfl, rfl⟩)
      go_ret
      exact ⟨by rw [hc.out]; rfl, rfl⟩
    · have eb : nanB b = false := decide_eq_false nb
      have hs : sameB a b = false := by rw [hsm.out, ea, eb]; rfl
      have hc : Hid (cmpT a b = 1) := Lib.hid (cmpT_gt (by rw [T_nan na]; exact (T_lt nb).1))
      clear na nb
      go_enter Try.func21, Try.ntmps21
      go_wp2_with (go_at_call 14; refine (HS.out _ _ _).mono ?_; rintro e w' ⟨rfl, rfl⟩)
      go_ret
      exact ⟨by rw [hc.out]; rfl, rfl⟩
  · have ea : nanB a = false := decide_eq_false na
    by_cases nb : Fl.nan b
    · have eb : nanB b = true := decide_eq_true nb
      have hs : sameB a b = false := by rw [hsm.out, ea, eb]; rfl
      have hc : Hid (cmpT a b = -1) := Lib.hid (cmpT_lt (by rw [T_nan nb]; exact (T_lt na).1))
      clear na nb
      go_enter Try.func21, Try.ntmps21
      go_wp2_with (go_at_call 14; refine (HS.out _ _ _).mono ?_; rintro e w' ⟨rfl, rfl⟩)
      go_ret
      exact ⟨by rw [hc.out]; rfl, rfl⟩
    · have eb : nanB b = false := decide_eq_false nb
      have t1 := o_lt a b na nb
      have t2 := o_eq a b na nb
      by_cases hab : a = b
      · have hs : sameB a b = true := by rw [hsm.out, ea, eb, hab]; simp
        have hc : Hid (cmpT a b = 0) := Lib.hid (cmpT_eq (by rw [hab]))
        clear na nb t1 t2 hab
        go_enter Try.func21, Try.ntmps21
        go_wp2_with (go_at_call 14; refine (HS.out _ _ _).mono ?_; rintro e w' ⟨rfl, rfl⟩)
        go_ret
        exact ⟨by rw [hc.out]; rfl, rfl⟩
      · have hs : sameB a b = false := by rw [hsm.out, ea, eb]; simp [hab]
        rcases Int.lt_trichotomy (Fl.key a) (Fl.key b) with h | h | h
        · have hc : Hid (cmpT a b = -1) := Lib.hid (cmpT_lt (T_of_key na nb h))
          rw [decide_eq_true h] at t1
          rw [decide_eq_false (by omega)] at t2
          clear na nb h hab
          go_enter Try.func21, Try.ntmps21
          go_wp2_with (go_at_call 14; refine (HS.out _ _ _).mono ?_; rintro e w' ⟨rfl, rfl⟩)
          go_ret
          exact ⟨by rw [hc.out]; rfl, rfl⟩
        · have hc := Lib.hid (T_same_key na nb h)
          have hne : T a ≠ T b := fun e => hab (T_inj na nb la lb e)
          have hn0 : ¬ cmpT a b = 0 := by
            unfold cmpT
            by_cases h1 : T a < T b
            · rw [if_pos h1]; decide
            · rw [if_neg h1, if_pos (by omega)]; decide
          rw [decide_eq_true h] at t2
          rw [decide_eq_false (by omega)] at t1
          clear na nb h hab hne
          cases ea2 : Fl.isNeg a <;> cases eb2 : Fl.isNeg b <;> rw [ea2, eb2] at hc
          · exact absurd hc.out hn0
          · clear hn0
            go_enter Try.func21, Try.ntmps21
            go_wp2_with (first
              | (go_at_call 14; refine (HS.out _ _ _).mono ?_; rintro e w' ⟨rfl, rfl⟩)
              | (go_at_call 31; refine (HB.out _ _ la).mono ?_; rintro e w' ⟨rfl, rfl⟩))
            go_ret
            exact ⟨by rw [hc.out]; rfl, rfl⟩
          · clear hn0
            go_enter Try.func21, Try.ntmps21
            go_wp2_with (first
              | (go_at_call 14; refine (HS.out _ _ _).mono ?_; rintro e w' ⟨rfl, rfl⟩)
              | (go_at_call 31; refine (HB.out _ _ la).mono ?_; rintro e w' ⟨rfl, rfl⟩))
            go_ret
            exact ⟨by rw [hc.out]; rfl, rfl⟩
          · exact absurd hc.out hn0
        · have hc : Hid (cmpT a b = 1) := Lib.hid (cmpT_gt (T_of_key nb na h))
          rw [decide_eq_false (by omega)] at t1 t2
          clear na nb h hab
          go_enter Try.func21, Try.ntmps21
          go_wp2_with (go_at_call 14; refine (HS.out _ _ _).mono ?_; rintro e w' ⟨rfl, rfl⟩)
          go_ret
          exact ⟨by rw [hc.out]; rfl, rfl⟩
end Go.Proofs.Ythnjnpighnlodaa
