/-
  Finite floats as rational numbers: sums, differences and products are off by at most one part in 2^53 of what they come to, and by less than that of one.
  Conditions: each theorem's own.
-/
import Derived.Test.YthnjnpighnlodaaFn
namespace Go.Proofs.Ythnjnpighnlodaa.Fl
open Ieee

def fin (x : Nat) : Prop := rung x < 9218868437227405312
/-- A finite number in units of the least magnitude. -/
def V (x : Nat) : Int := sgn (isNeg x) (mag (rung x))
theorem fin_num {x : Nat} (h : fin x) : ¬ nan x := by unfold fin at h; unfold nan; omega
theorem V_lt (a b : Nat) : V a < V b ↔ key a < key b := by
  have h := cmp_sgn (isNeg a) (isNeg b) (rung a) (rung b)
  have ka : key a = sgn (isNeg a) (rung a) := rfl
  have kb : key b = sgn (isNeg b) (rung b) := rfl
  rw [← ka, ← kb] at h
  change compareOfLessAndEq (V a) (V b) = compareOfLessAndEq (key a) (key b) at h
  unfold compareOfLessAndEq at h
  by_cases h1 : V a < V b
  · rw [if_pos h1] at h
    by_cases h2 : key a < key b
    · exact ⟨fun _ => h2, fun _ => h1⟩
    · rw [if_neg h2] at h
      split at h <;> cases h
  · rw [if_neg h1] at h
    by_cases h2 : key a < key b
    · rw [if_pos h2] at h
      split at h <;> cases h
    · exact ⟨fun x => absurd x h1, fun x => absurd x h2⟩
theorem word_parts (s : Bool) (R : Nat) (h : R < 9223372036854775808) : rung (double.word s R) = R ∧ isNeg (double.word s R) = s := by
  cases s
  · have e : double.word false R = R := rfl
    rw [e]
    unfold rung isNeg
    exact ⟨by omega, by rw [show R / 9223372036854775808 = 0 by omega]; rfl⟩
  · have e : double.word true R = 9223372036854775808 + R := by show double.signWeight + R = _; rw [sw]
    rw [e]
    unfold rung isNeg
    exact ⟨by omega, by rw [show (9223372036854775808 + R) / 9223372036854775808 = 1 by omega]; rfl⟩
theorem neg_word (x : Nat) : rung (Op.negFloat .f64 x) = rung x ∧ isNeg (Op.negFloat .f64 x) = !isNeg x := by
  have e : Op.negFloat .f64 x = x ^^^ 2 ^ 63 := rfl
  rw [e]
  unfold rung isNeg
  constructor
  · rw [show (9223372036854775808 : Nat) = 2 ^ 63 from rfl, Nat.xor_mod_two_pow, Nat.mod_self, Nat.xor_zero]
  · rw [show (9223372036854775808 : Nat) = 2 ^ 63 from rfl, Nat.xor_div_two_pow, Nat.div_self (by decide)]
    have h2 : (x / 2 ^ 63 ^^^ 1) % 2 = (x / 2 ^ 63 % 2) ^^^ 1 := by
      have := Nat.xor_mod_two_pow (a := x / 2 ^ 63) (b := 1) (n := 1)
      simpa using this
    rw [h2]
    rcases Nat.mod_two_eq_zero_or_one (x / 2 ^ 63) with h | h <;> rw [h] <;> rfl
theorem V_neg (x : Nat) : V (Op.negFloat .f64 x) = -V x := by
  obtain ⟨h1, h2⟩ := neg_word x
  unfold V
  rw [h1, h2]
  cases isNeg x <;> simp [sgn]
theorem fin_neg {x : Nat} (h : fin x) : fin (Op.negFloat .f64 x) := by
  unfold fin
  rw [(neg_word x).1]
  exact h

theorem rat_cases (a b : Rat) : a < b ∨ b ≤ a := by
  by_cases h : b ≤ a
  · exact .inr h
  · exact .inl (Rat.not_le.1 h)
/-- The value of a finite number. -/
def q (x : Nat) : Rat := (V x : Rat) / (unit : Rat)
theorem unitQ : (0 : Rat) < (unit : Rat) := by
  have := unit_pos
  exact Rat.natCast_pos.2 this
theorem q_unit (x : Nat) : q x * (unit : Rat) = (V x : Rat) := Rat.div_mul_cancel (by have := unitQ; grind)
theorem q_lt (a b : Nat) : q a < q b ↔ key a < key b := by
  rw [← V_lt, ← Rat.intCast_lt_intCast, ← q_unit a, ← q_unit b]
  have hu := unitQ
  constructor
  · intro h
    exact Rat.mul_lt_mul_of_pos_right h hu
  · intro h
    rcases rat_cases (q a) (q b) with h1 | h1
    · exact h1
    · have := Rat.mul_le_mul_of_nonneg_right h1 (Rat.le_of_lt hu)
      grind
theorem q_neg (x : Nat) : q (Op.negFloat .f64 x) = -q x := by
  have h1 := q_unit x
  have h2 := q_unit (Op.negFloat .f64 x)
  rw [V_neg, Rat.intCast_neg] at h2
  have hu := unitQ
  have h3 : (q (Op.negFloat .f64 x) + q x) * (unit : Rat) = 0 := by grind
  rcases Rat.mul_eq_zero.1 h3 with h | h <;> grind

/-- The bound of what is reckoned with: 2^1020. -/
def bigR : Nat := 9200854038717923328
def big : Rat := q bigR
theorem bigR_fin : bigR < 9218868437227405312 := by decide
theorem big_unit : big * (unit : Rat) = (mag bigR : Rat) := by
  have h := q_unit bigR
  have e : V bigR = (mag bigR : Int) := by
    have h1 := rung_small (show bigR ≤ 9218868437227405312 by decide)
    unfold V
    rw [h1.1, h1.2.1]
    rfl
  rw [e, Rat.intCast_natCast] at h
  exact h
attribute [irreducible] big
/-- r is what X, of at most B, is rounded to. -/
structure Rounds (X B : Rat) (r : Nat) : Prop where
  fin : fin r
  up : 9007199254740992 * (q r - X) ≤ B + 1
  dn : 9007199254740992 * (X - q r) ≤ B + 1
/-- From rungs to rational numbers: W in units of 2^-(1074+t). -/
theorem rounds (s : Bool) (W t kk : Nat) (h : Near W t kk) (X B : Rat) (hX : X * ((unit : Rat) * ((2 ^ t : Nat) : Rat)) = if s then -(W : Rat) else (W : Rat)) (h1 : -B ≤ X) (h2 : X ≤ B) (hB : B ≤ big) :
    Rounds X B (double.word s (min kk 9218868437227405312)) := by
  have hu := unitQ
  have hT : (0 : Rat) < ((2 ^ t : Nat) : Rat) := Rat.natCast_pos.2 (Nat.two_pow_pos t)
  have hbig := big_unit
  have hW0 : (0 : Rat) ≤ (W : Rat) := Rat.natCast_nonneg
  have hD := Rat.mul_pos hu hT
  -- the magnitude is not above the bound
  have hWB : (W : Rat) ≤ B * ((unit : Rat) * ((2 ^ t : Nat) : Rat)) := by
    have a1 := Rat.mul_le_mul_of_nonneg_right h1 (Rat.le_of_lt hD)
    have a2 := Rat.mul_le_mul_of_nonneg_right h2 (Rat.le_of_lt hD)
    cases s <;> simp at hX <;> grind
  have hkk : kk ≤ bigR := by
    refine h.le ?_
    rw [← Rat.natCast_le_natCast, Rat.natCast_mul]
    have a1 := Rat.mul_le_mul_of_nonneg_right hB (Rat.le_of_lt hD)
    rw [← hbig]
    grind
  have hkf := bigR_fin
  have hmin : min kk 9218868437227405312 = kk := by omega
  rw [hmin]
  obtain ⟨r1, r2⟩ := word_parts s kk (by omega)
  have hq := q_unit (double.word s kk)
  have hV : V (double.word s kk) = sgn s (mag kk) := by unfold V; rw [r1, r2]
  rw [hV] at hq
  have hg : q (double.word s kk) * (unit : Rat) = if s then -(mag kk : Rat) else (mag kk : Rat) := by
    rw [hq]; unfold sgn
    cases s <;> simp [Rat.intCast_natCast, Rat.intCast_neg]
  have e1 := Rat.natCast_le_natCast.2 h.e1
  have e2 := Rat.natCast_le_natCast.2 h.e2
  have hsm : (4503599627370496 : Rat) * ((2 ^ t : Nat) : Rat) ≤ (unit : Rat) * ((2 ^ t : Nat) : Rat) := by
    refine Rat.mul_le_mul_of_nonneg_right ?_ (Rat.le_of_lt hT)
    exact Rat.natCast_le_natCast.2 unit_small
  simp only [Rat.natCast_add, Rat.natCast_mul] at e1 e2
  generalize ((2 ^ t : Nat) : Rat) = T at *
  generalize (unit : Rat) = U at *
  generalize (mag kk : Rat) = g at *
  generalize hyq : q (double.word s kk) = y at *
  generalize (W : Rat) = w at *
  have c1 : ((9007199254740992 : Nat) : Rat) = 9007199254740992 := rfl
  have c2 : ((4503599627370496 : Nat) : Rat) = 4503599627370496 := rfl
  rw [c1, c2] at e1 e2
  have hy : y * (U * T) = if s then -(g * T) else g * T := by
    have : y * (U * T) = (y * U) * T := by grind
    rw [this, hg]
    cases s <;> grind
  refine ⟨?_, ?_, ?_⟩
  · unfold fin; rw [r1]; omega
  · rcases rat_cases (B + 1) (9007199254740992 * (y - X)) with h3 | h3
    · have h4 := Rat.mul_lt_mul_of_pos_right h3 hD
      cases s <;> simp at hX hy <;> grind
    · rw [hyq]; exact h3
  · rcases rat_cases (B + 1) (9007199254740992 * (X - y)) with h3 | h3
    · have h4 := Rat.mul_lt_mul_of_pos_right h3 hD
      cases s <;> simp at hX hy <;> grind
    · rw [hyq]; exact h3
end Go.Proofs.Ythnjnpighnlodaa.Fl
