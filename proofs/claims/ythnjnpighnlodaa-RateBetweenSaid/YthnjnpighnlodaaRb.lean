/-
  Words for rates: a slice that reads as a list of floats, one row's total order of floats, and the contracts of the calls that compare two.
  Conditions: each theorem's own.
-/
import Derived.Test.YthnjnpighnlodaaRows
import Derived.Test.YthnjnpighnlodaaFl
import Derived.WalkKit
import Derived.WalkSpells
import Derived.WalkLawsBesides
import Derived.Below
import Derived.Laws.OwnMore
import Derived.Laws.FloatArith
import Derived.Deep.AppendLies
import Derived.Deep.Draws
import Derived.Deep.QuietTactic
import Derived.Deep.LoopGhost
import Derived.BigQuiet
import Derived.Lib.Hide
import Derived.IntWalk
namespace Go.Proofs.Ythnjnpighnlodaa
open Go.RowKit

def nanB (a : Nat) : Bool := decide (Fl.nan a)
/-- Rates in one row: a whole number for each. -/
def T (a : Nat) : Int := if Fl.nan a then 36893488147419103232 else if Fl.isNeg a then -(Fl.rung a : Int) - 1 else (Fl.rung a : Int)
def cmpT (a b : Nat) : Int := if T a < T b then -1 else if T b < T a then 1 else 0

theorem o_neq_self (a : Nat) : (FloatKind.f64.format.order a a != some .eq) = nanB a := by
  show (Ieee.double.order a a != some .eq) = nanB a
  unfold nanB
  by_cases h : Fl.nan a
  · rw [Fl.order_nan_left a a h]; simp [h]
  · rw [Fl.order_key a a h h]
    have e : compare (Fl.key a) (Fl.key a) = .eq := by
      show compareOfLessAndEq _ _ = _
      unfold compareOfLessAndEq
      rw [if_neg (Int.lt_irrefl _), if_pos rfl]
    rw [e]; simp [h]
theorem isNaN_any (a : Nat) (w : World) : Calls Try.prog 28 #[.float .f64 a] w fun e w' => e = .returned (.bool (nanB a)) ∧ w = w' := by
  have h := o_neq_self a
  go_enter Try.func28, Try.ntmps28
  go_wp2
  go_ret
  exact ⟨rfl, rfl⟩
theorem order_any (f s : Bool) (w : World) : Calls Try.prog 29 #[.bool f, .bool s] w fun e w' => e = .returned (.int .i64 (if f = s then 0 else if f = true then -1 else 1)) ∧ w = w' := by
  cases f <;> cases s
  all_goals
    go_enter Try.func29, Try.ntmps29
    go_wp2
    go_ret
    exact ⟨rfl, rfl⟩
theorem run_bits (a : Nat) (w : World) : (callFunc 27 #[.float .f64 a]).run Try.prog w = .ok (.value (.int .u64 a)) w := by kernel_rfl
theorem i64_neg (a : Nat) : decide (wrap64 (a : Int) < 0) = Fl.isNeg a := by
  unfold Fl.isNeg wrap64
  rw [Bool.eq_iff_iff, decide_eq_true_iff, beq_iff_eq]
  omega
theorem signbit_any (a : Nat) (w : World) : Calls Try.prog 30 #[.float .f64 a] w fun e w' => e = .returned (.bool (Fl.isNeg a)) ∧ w = w' := by
  have hb := run_bits
  have hi := i64_neg a
  go_enter Try.func30, Try.ntmps30
  go_wp2
  go_ret
  exact ⟨rfl, rfl⟩

theorem cmp_cases (x y : Int) : compare x y = if x < y then .lt else if x = y then .eq else .gt := rfl
theorem o_lt (a b : Nat) (ha : ¬ Fl.nan a) (hb : ¬ Fl.nan b) : (FloatKind.f64.format.order a b == some .lt) = decide (Fl.key a < Fl.key b) := by
  show (Ieee.double.order a b == some .lt) = _
  rw [Fl.order_key a b ha hb, cmp_cases]
  by_cases h : Fl.key a < Fl.key b
  · simp [h]
  · by_cases h2 : Fl.key a = Fl.key b <;> simp [h, h2]
theorem o_gt (a b : Nat) (ha : ¬ Fl.nan a) (hb : ¬ Fl.nan b) : (FloatKind.f64.format.order a b == some .gt) = decide (Fl.key b < Fl.key a) := by
  show (Ieee.double.order a b == some .gt) = _
  rw [Fl.order_key a b ha hb, cmp_cases]
  by_cases h : Fl.key a < Fl.key b
  · have h3 : ¬ Fl.key b < Fl.key a := by omega
    simp [h, h3]
  · by_cases h2 : Fl.key a = Fl.key b
    · have h3 : ¬ Fl.key b < Fl.key a := by omega
      rw [if_neg h, if_pos h2]; simp [h3]
    · have h3 : Fl.key b < Fl.key a := by omega
      rw [if_neg h, if_neg h2]; simp [h3]
theorem o_eq (a b : Nat) (ha : ¬ Fl.nan a) (hb : ¬ Fl.nan b) : (FloatKind.f64.format.order a b == some .eq) = decide (Fl.key a = Fl.key b) := by
  show (Ieee.double.order a b == some .eq) = _
  rw [Fl.order_key a b ha hb, cmp_cases]
  by_cases h : Fl.key a < Fl.key b
  · have h3 : ¬ Fl.key a = Fl.key b := by omega
    simp [h, h3]
  · by_cases h2 : Fl.key a = Fl.key b
    · rw [if_neg h, if_pos h2]; simp [h2]
    · rw [if_neg h, if_neg h2]; simp [h2]
theorem T_nan {a : Nat} (h : Fl.nan a) : T a = 36893488147419103232 := if_pos h
theorem T_num {a : Nat} (h : ¬ Fl.nan a) : T a = if Fl.isNeg a then -(Fl.rung a : Int) - 1 else (Fl.rung a : Int) := if_neg h
theorem T_lt {a : Nat} (h : ¬ Fl.nan a) : T a < 36893488147419103232 ∧ -36893488147419103232 < T a := by
  have h2 : Fl.rung a < 9223372036854775808 := Nat.mod_lt _ (by decide)
  rw [T_num h]; split <;> omega
theorem T_of_key {a b : Nat} (ha : ¬ Fl.nan a) (hb : ¬ Fl.nan b) : (Fl.key a < Fl.key b → T a < T b) := by
  rw [T_num ha, T_num hb]; unfold Fl.key
  cases Fl.isNeg a <;> cases Fl.isNeg b <;> simp only [Bool.false_eq_true, if_false, if_true] <;> omega
theorem cmpT_lt {a b : Nat} (h : T a < T b) : cmpT a b = -1 := if_pos h
theorem cmpT_gt {a b : Nat} (h : T b < T a) : cmpT a b = 1 := by unfold cmpT; rw [if_neg (by omega), if_pos h]
theorem cmpT_eq {a b : Nat} (h : T a = T b) : cmpT a b = 0 := by unfold cmpT; rw [if_neg (by omega), if_neg (by omega)]
theorem T_same_key {a b : Nat} (ha : ¬ Fl.nan a) (hb : ¬ Fl.nan b) (h : Fl.key a = Fl.key b) : cmpT a b = if Fl.isNeg a = Fl.isNeg b then 0 else if Fl.isNeg a = true then -1 else 1 := by
  have h1 := T_num ha
  have h2 := T_num hb
  unfold Fl.key at h
  cases ea : Fl.isNeg a <;> cases eb : Fl.isNeg b <;> rw [ea] at h h1 <;> rw [eb] at h h2 <;> simp only [Bool.false_eq_true, if_false, if_true] at h h1 h2
  · exact cmpT_eq (by omega)
  · exact cmpT_gt (by omega)
  · exact cmpT_lt (by omega)
  · exact cmpT_eq (by omega)

set_option maxHeartbeats 800000 in
theorem compare_any (a b : Nat) (w : World) :
    Calls Try.prog 20 #[.float .f64 a, .float .f64 b] w fun e w' => e = .returned (.int .i64 (cmpT a b)) ∧ w = w' := by
  have HN := Lib.hid isNaN_any
  have HO := Lib.hid order_any
  have HS := Lib.hid signbit_any
  by_cases na : Fl.nan a
  · have ea : nanB a = true := decide_eq_true na
    by_cases nb : Fl.nan b
    · have eb : nanB b = true := decide_eq_true nb
      have hc : Hid (cmpT a b = 0) := Lib.hid (cmpT_eq (by rw [T_nan na, T_nan nb]))
      clear na nb
      go_enter Try.func20, Try.ntmps20
      go_wp2_with (first
        | (go_at_call 28; refine (HN.out _ _).mono ?_; rintro e w' ⟨rfl, rfl⟩)
        | (go_at_call 29; refine (HO.out _ _ _).mono ?_; rintro e w' ⟨rfl, rfl⟩))
      go_ret
      exact ⟨by rw [hc.out]; rfl, rfl⟩
    · have eb : nanB b = false := decide_eq_false nb
      have hc : Hid (cmpT a b = 1) := Lib.hid (cmpT_gt (by rw [T_nan na]; exact (T_lt nb).1))
      clear na nb
      go_enter Try.func20, Try.ntmps20
      go_wp2_with (first
        | (go_at_call 28; refine (HN.out _ _).mono ?_; rintro e w' ⟨rfl, rfl⟩)
        | (go_at_call 29; refine (HO.out _ _ _).mono ?_; rintro e w' ⟨rfl, rfl⟩))
      go_ret
      exact ⟨by rw [hc.out]; rfl, rfl⟩
  · have ea : nanB a = false := decide_eq_false na
    by_cases nb : Fl.nan b
    · have eb : nanB b = true := decide_eq_true nb
      have hc : Hid (cmpT a b = -1) := Lib.hid (cmpT_lt (by rw [T_nan nb]; exact (T_lt na).1))
      clear na nb
      go_enter Try.func20, Try.ntmps20
      go_wp2_with (first
        | (go_at_call 28; refine (HN.out _ _).mono ?_; rintro e w' ⟨rfl, rfl⟩)
        | (go_at_call 29; refine (HO.out _ _ _).mono ?_; rintro e w' ⟨rfl, rfl⟩))
      go_ret
      exact ⟨by rw [hc.out]; rfl, rfl⟩
    · have eb : nanB b = false := decide_eq_false nb
      have t1 := o_lt a b na nb
      have t2 := o_gt a b na nb
      rcases Int.lt_trichotomy (Fl.key a) (Fl.key b) with h | h | h
      · have hc : Hid (cmpT a b = -1) := Lib.hid (cmpT_lt (T_of_key na nb h))
        rw [decide_eq_true h] at t1
        clear na nb t2 h
        go_enter Try.func20, Try.ntmps20
        go_wp2_with (first
          | (go_at_call 28; refine (HN.out _ _).mono ?_; rintro e w' ⟨rfl, rfl⟩)
          | (go_at_call 29; refine (HO.out _ _ _).mono ?_; rintro e w' ⟨rfl, rfl⟩))
        go_ret
        exact ⟨by rw [hc.out]; rfl, rfl⟩
      · have hc := Lib.hid (T_same_key na nb h)
        rw [decide_eq_false (by omega)] at t1 t2
        clear na nb h
        cases ea2 : Fl.isNeg a <;> cases eb2 : Fl.isNeg b <;> rw [ea2, eb2] at hc
        all_goals
          go_enter Try.func20, Try.ntmps20
          go_wp2_with (first
            | (go_at_call 28; refine (HN.out _ _).mono ?_; rintro e w' ⟨rfl, rfl⟩)
            | (go_at_call 30; refine (HS.out _ _).mono ?_; rintro e w' ⟨rfl, rfl⟩)
            | (go_at_call 29; refine (HO.out _ _ _).mono ?_; rintro e w' ⟨rfl, rfl⟩))
          go_ret
          exact ⟨by rw [hc.out]; rfl, rfl⟩
      · have hc : Hid (cmpT a b = 1) := Lib.hid (cmpT_gt (T_of_key nb na h))
        rw [decide_eq_true h] at t2
        rw [decide_eq_false (by omega)] at t1
        clear na nb h
        go_enter Try.func20, Try.ntmps20
        go_wp2_with (first
          | (go_at_call 28; refine (HN.out _ _).mono ?_; rintro e w' ⟨rfl, rfl⟩)
          | (go_at_call 29; refine (HO.out _ _ _).mono ?_; rintro e w' ⟨rfl, rfl⟩))
        go_ret
        exact ⟨by rw [hc.out]; rfl, rfl⟩
end Go.Proofs.Ythnjnpighnlodaa
