/-
  Whole numbers as floats and back: what the floor of a number below a rounded whole number is.
  Conditions: each theorem's own.
-/
import Derived.Test.YthnjnpighnlodaaFm
import Derived.Test.YthnjnpighnlodaaRfl
namespace Go.Proofs.Ythnjnpighnlodaa
open Ieee Fl

namespace Fl
/-- One, in units of the least magnitude. -/
def ue : Nat := 1074
def unit : Nat := 2 ^ ue
theorem ue_is : ue = 1074 := rfl
theorem unit_is : unit = 2 ^ ue := rfl
theorem unit_pos : 0 < unit := Nat.two_pow_pos _
theorem unit_one : 4503599627370496 * 2 ^ 1022 = unit := by decide +kernel
theorem mag_inf : 9007199254740992 * unit < mag 9218868437227405312 := by decide +kernel
theorem unit_small : 4503599627370496 ≤ unit := by decide +kernel
attribute [irreducible] ue unit
theorem cut_floor (way : Toward) (hw : way = .down ∨ way = .zero) (n d : Nat) : way.cut false n d * 2 ^ d ≤ n ∧ n < (way.cut false n d + 1) * 2 ^ d := by
  have e : way.cut false n d = n / 2 ^ (min d (n.log2 + 2)) := by
    unfold Toward.cut
    simp only [Nat.one_shiftLeft]
    rcases hw with rfl | rfl <;> simp
  have e2 : n / 2 ^ (min d (n.log2 + 2)) = n / 2 ^ d := by
    rcases Nat.le_total d (n.log2 + 2) with h | h
    · rw [Nat.min_eq_left h]
    · rw [Nat.min_eq_right h]
      have h1 : n < 2 ^ (n.log2 + 1) := Nat.lt_log2_self
      have h2 : 2 ^ (n.log2 + 2) = 2 * 2 ^ (n.log2 + 1) := by rw [← Nat.pow_succ']
      have h3 : 2 ^ (n.log2 + 2) ≤ 2 ^ d := Nat.pow_le_pow_right (by decide) h
      rw [Nat.div_eq_of_lt (by omega), Nat.div_eq_of_lt (by omega)]
  rw [e, e2]
  have hpos : 0 < 2 ^ d := Nat.two_pow_pos _
  exact ⟨Nat.div_mul_le_self _ _, by rw [Nat.mul_comm]; exact Nat.lt_mul_div_succ n hpos⟩
/-- As read_fin, with the bound on the digits. -/
theorem read_fin2 (b : Nat) (h : rung b < 9218868437227405312) : ∃ m i, double.read b = .number (isNeg b) m i ∧ -1074 ≤ i ∧ m * 2 ^ (i + 1074).toNat = mag (rung b) ∧ m ≤ 9007199254740992 := by
  unfold Format.read
  simp only [sw, bn, inf, lp]
  unfold rung at h
  by_cases h1 : b % 9223372036854775808 < 4503599627370496
  · rw [if_pos h1]
    refine ⟨_, _, rfl, by omega, ?_, by omega⟩
    unfold mag rung
    rw [if_pos h1]
    simp
  · rw [if_neg h1, if_pos h]
    have hb : b % 9223372036854775808 % 4503599627370496 < 4503599627370496 := Nat.mod_lt _ (by decide)
    refine ⟨_, _, rfl, by omega, ?_, by omega⟩
    unfold mag rung
    rw [if_neg h1]
    have e : (-1074 + ((b % 9223372036854775808 / 4503599627370496 - 1 : Nat) : Int) + 1074).toNat = b % 9223372036854775808 / 4503599627370496 - 1 := by omega
    rw [e]
/-- What is left of a finite number below its point, cut off towards zero. -/
theorem whole_part (way : Toward) (hw : way = .down ∨ way = .zero) (b : Nat) (h : rung b < 9218868437227405312) (hs : isNeg b = false) :
    ∃ K, (double.read b).integral way = .number false K 0 ∧ K * unit ≤ mag (rung b) ∧ mag (rung b) < (K + 1) * unit ∧ ∃ R, mag R = K * unit := by
  obtain ⟨m, i, e, hi, hm, hm2⟩ := read_fin2 b h
  rw [e, hs]
  refine ⟨_, rfl, ?_⟩
  have hc := cut_floor way hw (m <<< i.toNat) (-i).toNat
  rw [Nat.shiftLeft_eq] at *
  generalize way.cut false (m * 2 ^ i.toNat) (-i).toNat = K at *
  rcases Int.le_total 0 i with h0 | h0
  · have e1 : (-i).toNat = 0 := by omega
    rw [e1] at hc
    simp only [Nat.pow_zero, Nat.mul_one] at hc
    have hK : K = m * 2 ^ i.toNat := by omega
    have e2 : mag (rung b) = K * unit := by
      rw [← hm, hK, Nat.mul_assoc, unit_is, ← Nat.pow_add, show i.toNat + ue = (i + 1074).toNat by rw [ue_is]; omega]
    refine ⟨by rw [e2]; exact Nat.le_refl _, ?_, rung b, e2⟩
    rw [e2]
    exact Nat.mul_lt_mul_of_pos_right (by omega) unit_pos
  · have e1 : i.toNat = 0 := by omega
    rw [e1] at hc
    simp only [Nat.pow_zero, Nat.mul_one] at hc
    have hd : (-i).toNat + (i + 1074).toNat = ue := by rw [ue_is]; omega
    have hKm : K ≤ m := by
      have : K * 1 ≤ K * 2 ^ (-i).toNat := Nat.mul_le_mul_left _ Nat.one_le_two_pow
      omega
    have hs1 := Nat.mul_le_mul_right (2 ^ (i + 1074).toNat) hc.1
    have hs2 := Nat.mul_lt_mul_of_pos_right hc.2 (Nat.two_pow_pos (i + 1074).toNat)
    rw [Nat.mul_assoc, ← Nat.pow_add, hd, hm, ← unit_is] at hs1
    rw [Nat.mul_assoc, ← Nat.pow_add, hd, hm, ← unit_is] at hs2
    exact ⟨hs1, hs2, by rw [unit_is]; exact rung_of ue K (by omega)⟩
theorem word_pos (R : Nat) : double.word false R = R := rfl
theorem rung_small {R : Nat} (h : R ≤ 9218868437227405312) : rung R = R ∧ isNeg R = false ∧ ¬ nan R := by
  have h1 : rung R = R := by unfold rung; omega
  refine ⟨h1, ?_, by unfold nan; omega⟩
  unfold isNeg
  have : R / 9223372036854775808 = 0 := by omega
  rw [this]; rfl
/-- A whole number as a float. -/
theorem ofNat_is (n : Nat) (h : n ≠ 0) : ∃ kk, double.nearest false n 0 = min kk 9218868437227405312 ∧ Near (n * unit) 0 kk := by
  obtain ⟨kk, e, hk⟩ := nearest_is false n 0 0 (n * unit) h (by omega) (by rw [show ((0 : Int) + 1074 + ((0 : Nat) : Int)).toNat = ue from ue_is.symm, unit_is])
  exact ⟨kk, e, hk⟩
/-- A whole number that can be written is its own float. -/
theorem ofNat_exact (n R : Nat) (hR : mag R = n * unit) (hi : R < 9218868437227405312) : double.nearest false n 0 = R := by
  by_cases h : n = 0
  · subst h
    have : mag R = mag 0 := by rw [hR, Nat.zero_mul]; decide
    have : R ≤ 0 := rung_le (by omega)
    obtain rfl : R = 0 := by omega
    rfl
  · obtain ⟨kk, e, hk⟩ := ofNat_is n h
    have : kk = R := hk.eq (by rw [hR, Nat.pow_zero, Nat.mul_one])
    rw [e, this]
    omega
end Fl
open Go.RowKit

/-- The floor of a positive number that is below the float of a whole number: it is not above that one, its float is not above the number, and one more is. -/
structure Floored (x : Nat) (m : Int) (K : Nat) : Prop where
  le : (K : Int) ≤ m
  conv : floatToIntVal .f64 (floorW x) .i64 = some (K : Int)
  fl : (FloatKind.f64.format.order (floatOfInt .f64 (K : Int)) x == some .gt) = false
  up : K < 4503599627370496 → ∃ r, floatBits .add .f64 (floatOfInt .f64 (K : Int)) 4607182418800017408 = some r ∧ (FloatKind.f64.format.order r x == some .lt) = false ∧ (FloatKind.f64.format.order r x == some .eq) = false
theorem ord_gt (a b : Nat) (ha : ¬ nan a) (hb : ¬ nan b) : (double.order a b == some .gt) = decide (key b < key a) := by
  rw [order_key a b ha hb]
  show (some (compareOfLessAndEq (key a) (key b)) == some Ordering.gt) = _
  unfold compareOfLessAndEq
  by_cases h1 : key a < key b
  · rw [if_pos h1, decide_eq_false (by omega)]; rfl
  · rw [if_neg h1]
    by_cases h2 : key a = key b
    · rw [if_pos h2, decide_eq_false (by omega)]; rfl
    · rw [if_neg h2, decide_eq_true (by omega)]; rfl
theorem ord_lt (a b : Nat) (ha : ¬ nan a) (hb : ¬ nan b) : (double.order a b == some .lt) = decide (key a < key b) := by
  rw [order_key a b ha hb]
  show (some (compareOfLessAndEq (key a) (key b)) == some Ordering.lt) = _
  unfold compareOfLessAndEq
  by_cases h1 : key a < key b
  · rw [if_pos h1, decide_eq_true h1]; rfl
  · rw [if_neg h1]
    by_cases h2 : key a = key b
    · rw [if_pos h2, decide_eq_false (by omega)]; rfl
    · rw [if_neg h2, decide_eq_false (by omega)]; rfl
theorem ord_eq (a b : Nat) (ha : ¬ nan a) (hb : ¬ nan b) : (double.order a b == some .eq) = decide (key a = key b) := by
  rw [order_key a b ha hb]
  show (some (compareOfLessAndEq (key a) (key b)) == some Ordering.eq) = _
  unfold compareOfLessAndEq
  by_cases h1 : key a < key b
  · rw [if_pos h1, decide_eq_false (by omega)]; rfl
  · rw [if_neg h1]
    by_cases h2 : key a = key b
    · rw [if_pos h2, decide_eq_true h2]; rfl
    · rw [if_neg h2, decide_eq_false h2]; rfl
theorem key_pos {R : Nat} (h : R ≤ 9218868437227405312) : key R = (R : Int) := by
  obtain ⟨h1, h2, _⟩ := rung_small h
  unfold key
  rw [h1, h2]; rfl
theorem floatOfNat (n : Nat) : floatOfInt .f64 (n : Int) = double.nearest false n 0 := by
  unfold floatOfInt FloatKind.nearest FloatKind.encode
  have : decide ((n : Int) < 0) = false := decide_eq_false (by omega)
  rw [this]
  rfl
theorem floored (x : Nat) (m : Int) (hm : 0 < m) (hm2 : m ≤ 9223372036854775807) (h0 : (FloatKind.f64.format.order x 0 == some .gt) = true)
    (h1 : (FloatKind.f64.format.order x (floatOfInt .f64 m) == some .lt) = true) : ∃ K, Floored x m K := by
  have hnx : ¬ nan x := fun hn => by
    have e0 : FloatKind.f64.format.order x 0 = none := order_nan_left x 0 hn
    rw [e0] at h0
    cases h0
  have hk0 : 0 < key x := by
    have e : (double.order x 0 == some .gt) = true := h0
    rw [ord_gt x 0 hnx (by decide)] at e
    exact of_decide_eq_true e
  have hneg : isNeg x = false := by
    cases hn : isNeg x
    · rfl
    · unfold key at hk0; rw [hn, if_pos rfl] at hk0; omega
  have hkx : key x = rung x := by unfold key; rw [hneg]; rfl
  obtain ⟨M, rfl⟩ : ∃ M : Nat, m = M := ⟨m.toNat, by omega⟩
  obtain ⟨kk, eF, hF⟩ := ofNat_is M (by omega)
  rw [floatOfNat, eF] at h1
  have hlt : rung x < min kk 9218868437227405312 := by
    have e : (double.order x (min kk 9218868437227405312) == some .lt) = true := h1
    have h2 := rung_small (show min kk 9218868437227405312 ≤ 9218868437227405312 by omega)
    rw [ord_lt _ _ hnx h2.2.2, hkx, key_pos (R := min kk 9218868437227405312) (by omega)] at e
    have := of_decide_eq_true e
    omega
  have hxi : rung x < 9218868437227405312 := by omega
  obtain ⟨K, eK, hK1, hK2, R, hR⟩ := whole_part .down (.inl rfl) x hxi hneg
  have hRx : R ≤ rung x := rung_le (by omega)
  have hW : double.nearest false K 0 = R := ofNat_exact K R hR (by omega)
  have hRs := rung_small (show R ≤ 9218868437227405312 by omega)
  have hKM : K ≤ M := by
    rcases Nat.lt_or_ge M K with h | h
    · have h2 : M * unit ≤ mag R := by rw [hR]; exact Nat.mul_le_mul_right _ (by omega)
      have h3 : kk ≤ R := hF.le (by rw [Nat.pow_zero, Nat.mul_one]; exact h2)
      omega
    · exact h
  refine ⟨K, by omega, ?_, ?_, ?_⟩
  · have e1 : floorW x = R := by
      unfold floorW
      rw [eK]
      exact hW
    obtain ⟨K2, e2, g1, g2, _⟩ := whole_part .zero (.inr rfl) R (by rw [hRs.1]; omega) hRs.2.1
    rw [hRs.1, hR] at g1 g2
    have hp := unit_pos
    have g3 : K2 ≤ K := Nat.le_of_mul_le_mul_right g1 hp
    have g4 : K < K2 + 1 := Nat.lt_of_mul_lt_mul_right g2
    obtain rfl : K2 = K := by omega
    unfold floatToIntVal Datum.toInt
    rw [e1, show FloatKind.f64.decode R = double.read R from rfl, e2]
    show (if IntKind.min .i64 ≤ signed false K2 0 ∧ signed false K2 0 ≤ IntKind.max .i64 then some (signed false K2 0) else none) = _
    have e3 : signed false K2 0 = (K2 : Int) := by rw [signed_eq]; unfold sgn; simp
    rw [e3, if_pos]
    have a1 : IntKind.min .i64 = -9223372036854775808 := by decide
    have a2 : IntKind.max .i64 = 9223372036854775807 := by decide
    omega
  · rw [floatOfNat, hW]
    show (double.order R x == some .gt) = false
    rw [ord_gt _ _ hRs.2.2 hnx, hkx, key_pos (R := R) (by omega)]
    exact decide_eq_false (by omega)
  · intro hKs
    rw [floatOfNat, hW]
    have hr1 : double.read 4607182418800017408 = .number false 4503599627370496 (-52) := by decide
    obtain ⟨n, i, e2, hi, hn⟩ := read_fin R (by rw [hRs.1]; omega)
    rw [hRs.1] at hn
    rw [hRs.2.1] at e2
    obtain ⟨R2, hR2⟩ := rung_of ue (K + 1) (by omega)
    rw [← unit_is] at hR2
    have hR2i : R2 < 9218868437227405312 := rung_lt (by
      have := mag_inf
      have : (K + 1) * unit ≤ 9007199254740992 * unit := Nat.mul_le_mul_right _ (by omega)
      omega)
    have hx2 : rung x < R2 := rung_lt (by omega)
    refine ⟨R2, ?_, ?_, ?_⟩
    · unfold floatBits
      show (((double.read R).sum (double.read 4607182418800017408)).map double.write) = some R2
      rw [hr1, e2]
      show some (double.write (.number _ (signed false n (i - min i (-52)).toNat + signed false 4503599627370496 (-52 - min i (-52)).toNat).natAbs (min i (-52)))) = some R2
      rw [signed_eq, signed_eq]
      congr 1
      have hb : -1074 ≤ min i (-52) := by omega
      have hg : ∀ b : Int, b = min i (-52) → n * 2 ^ (i - b).toNat * 2 ^ (b + 1074).toNat = K * unit ∧ 4503599627370496 * 2 ^ (-52 - b).toNat * 2 ^ (b + 1074).toNat = unit := by
        intro b hb2
        constructor
        · rw [Nat.mul_assoc, ← Nat.pow_add, show (i - b).toNat + (b + 1074).toNat = (i + 1074).toNat by omega, hn, hR]
        · rw [Nat.mul_assoc, ← Nat.pow_add, show (-52 - b).toNat + (b + 1074).toNat = 1022 by omega, unit_one]
      have hg2 := hg _ rfl
      generalize min i (-52) = b at *
      have hpos : (sgn false (n * 2 ^ (i - b).toNat) + sgn false (4503599627370496 * 2 ^ (-52 - b).toNat)).natAbs = n * 2 ^ (i - b).toNat + 4503599627370496 * 2 ^ (-52 - b).toNat := by
        unfold sgn
        simp only [Bool.false_eq_true, if_false]
        omega
      have hsg : ∀ T : Int, T = sgn false (n * 2 ^ (i - b).toNat) + sgn false (4503599627370496 * 2 ^ (-52 - b).toNat) → (if T = 0 then false && false else decide (T < 0)) = false := by
        intro T hT
        unfold sgn at hT
        simp only [Bool.false_eq_true, if_false] at hT
        split
        · rfl
        · exact decide_eq_false (by omega)
      rw [hpos]
      have hs2 := hsg _ rfl
      show double.nearest _ _ _ = R2
      rw [hs2]
      have hp52 : 0 < 2 ^ (-52 - b).toNat := Nat.two_pow_pos _
      obtain ⟨k2, e5, hk2⟩ := nearest_is false (n * 2 ^ (i - b).toNat + 4503599627370496 * 2 ^ (-52 - b).toNat) b 0 ((K + 1) * unit) (by omega) (by omega) (by
        rw [show (b + 1074 + ((0 : Nat) : Int)).toNat = (b + 1074).toNat by omega, Nat.add_mul (n * _), hg2.1, hg2.2, Nat.add_mul, Nat.one_mul])
      rw [e5, hk2.eq (show (K + 1) * unit = mag R2 * 2 ^ 0 by rw [hR2, Nat.pow_zero, Nat.mul_one])]
      show min R2 9218868437227405312 = R2
      omega
    · show (double.order R2 x == some .lt) = false
      rw [ord_lt _ _ (rung_small (by omega)).2.2 hnx, hkx, key_pos (R := R2) (by omega)]
      exact decide_eq_false (by omega)
    · show (double.order R2 x == some .eq) = false
      rw [ord_eq _ _ (rung_small (by omega)).2.2 hnx, hkx, key_pos (R := R2) (by omega)]
      exact decide_eq_false (by omega)
end Go.Proofs.Ythnjnpighnlodaa
