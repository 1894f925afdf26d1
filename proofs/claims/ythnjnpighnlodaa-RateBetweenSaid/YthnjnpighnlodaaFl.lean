/-
  Plain facts on IEEE words of 64 bits: how two words stand to each other is how their keys, whole numbers, stand.
  Conditions: words below 2^64.
-/
import Derived.Laws.FloatArith
namespace Go.Proofs.Ythnjnpighnlodaa.Fl
open Ieee

/-- The lower 63 bits of a word. -/
def rung (b : Nat) : Nat := b % 9223372036854775808
def isNeg (b : Nat) : Bool := b / 9223372036854775808 % 2 == 1
def nan (b : Nat) : Prop := 9218868437227405312 < rung b
instance (b : Nat) : Decidable (nan b) := by unfold nan; exact inferInstance
/-- A number's key: its rung, with its sign. -/
def key (b : Nat) : Int := if isNeg b then -(rung b : Int) else (rung b : Int)

theorem sw : double.signWeight = 9223372036854775808 := by decide
theorem bn : double.binade = 4503599627370496 := by decide
theorem inf : double.infRung = 9218868437227405312 := by decide
theorem lp : double.leastPlace = -1074 := by decide

/-- A finite magnitude in units of the least one. -/
def mag (r : Nat) : Nat := if r < 4503599627370496 then r else (4503599627370496 + r % 4503599627370496) * 2 ^ (r / 4503599627370496 - 1)
theorem mag_mono {r s : Nat} (h : r < s) : mag r < mag s := by
  unfold mag
  by_cases h1 : r < 4503599627370496
  · rw [if_pos h1]
    by_cases h2 : s < 4503599627370496
    · rw [if_pos h2]; exact h
    · rw [if_neg h2]
      have hp : 1 ≤ 2 ^ (s / 4503599627370496 - 1) := Nat.one_le_two_pow
      have h3 : (4503599627370496 + s % 4503599627370496) * 1 ≤ (4503599627370496 + s % 4503599627370496) * 2 ^ (s / 4503599627370496 - 1) := Nat.mul_le_mul_left _ hp
      omega
  · have h2 : ¬ s < 4503599627370496 := by omega
    rw [if_neg h1, if_neg h2]
    rcases Nat.lt_or_ge (r / 4503599627370496) (s / 4503599627370496) with hq | hq
    · have e : 2 ^ (s / 4503599627370496 - 1) = 2 ^ (r / 4503599627370496) * 2 ^ (s / 4503599627370496 - 1 - r / 4503599627370496) := by rw [← Nat.pow_add]; congr 1; omega
      have e2 : 2 ^ (r / 4503599627370496) = 2 * 2 ^ (r / 4503599627370496 - 1) := by
        rw [← Nat.pow_succ']; congr 1; omega
      have hp : 1 ≤ 2 ^ (s / 4503599627370496 - 1 - r / 4503599627370496) := Nat.one_le_two_pow
      have hm : r % 4503599627370496 < 4503599627370496 := Nat.mod_lt _ (by decide)
      have hpos : 0 < 2 ^ (r / 4503599627370496 - 1) := Nat.two_pow_pos _
      have a1 : (4503599627370496 + r % 4503599627370496) * 2 ^ (r / 4503599627370496 - 1) < (2 * 4503599627370496) * 2 ^ (r / 4503599627370496 - 1) := Nat.mul_lt_mul_of_pos_right (by omega) hpos
      have a2 : 2 ^ (r / 4503599627370496) * 1 ≤ 2 ^ (s / 4503599627370496 - 1) := by rw [e]; exact Nat.mul_le_mul_left _ hp
      have a3 : 4503599627370496 * 2 ^ (s / 4503599627370496 - 1) ≤ (4503599627370496 + s % 4503599627370496) * 2 ^ (s / 4503599627370496 - 1) := Nat.mul_le_mul_right _ (by omega)
      have a4 : 4503599627370496 * 2 ^ (r / 4503599627370496) ≤ 4503599627370496 * 2 ^ (s / 4503599627370496 - 1) := Nat.mul_le_mul_left _ (by omega)
      rw [e2] at a4
      have a5 : (2 * 4503599627370496) * 2 ^ (r / 4503599627370496 - 1) = 4503599627370496 * (2 * 2 ^ (r / 4503599627370496 - 1)) := by rw [Nat.mul_comm 2 4503599627370496, Nat.mul_assoc]
      omega
    · have hq2 : r / 4503599627370496 = s / 4503599627370496 := by omega
      have hpos : 0 < 2 ^ (s / 4503599627370496 - 1) := Nat.two_pow_pos _
      rw [hq2]
      exact Nat.mul_lt_mul_of_pos_right (by omega) hpos

/-- The word of a finite number stands for its magnitude, at some place that is not below the least one. -/
theorem read_fin (b : Nat) (h : rung b < 9218868437227405312) : ∃ m i, double.read b = .number (isNeg b) m i ∧ -1074 ≤ i ∧ m * 2 ^ (i + 1074).toNat = mag (rung b) := by
  unfold Format.read
  simp only [sw, bn, inf, lp]
  unfold rung at h
  by_cases h1 : b % 9223372036854775808 < 4503599627370496
  · rw [if_pos h1]
    refine ⟨_, _, rfl, by omega, ?_⟩
    unfold mag rung
    rw [if_pos h1]
    simp
  · rw [if_neg h1, if_pos h]
    refine ⟨_, _, rfl, by omega, ?_⟩
    unfold mag rung
    rw [if_neg h1]
    have e : (-1074 + ((b % 9223372036854775808 / 4503599627370496 - 1 : Nat) : Int) + 1074).toNat = b % 9223372036854775808 / 4503599627370496 - 1 := by omega
    rw [e]
theorem read_inf (b : Nat) (h : rung b = 9218868437227405312) : double.read b = .infinity (isNeg b) := by
  unfold Format.read
  simp only [sw, bn, inf]
  unfold rung at h
  rw [if_neg (by omega), if_neg (by omega), if_pos h]
  rfl
theorem read_nan (b : Nat) (h : nan b) : ∃ s t, double.read b = .nan s t := by
  unfold nan rung at h
  unfold Format.read
  simp only [sw, bn, inf]
  rw [if_neg (by omega), if_neg (by omega), if_neg (by omega)]
  exact ⟨_, _, rfl⟩

theorem order_nan_left (a b : Nat) (h : nan a) : double.order a b = none := by
  obtain ⟨s, t, e⟩ := read_nan a h
  unfold Format.order
  rw [e]
  rfl
theorem order_nan_right (a b : Nat) (h : nan b) : double.order a b = none := by
  obtain ⟨s, t, e⟩ := read_nan b h
  unfold Format.order
  rw [e]
  cases double.read a <;> rfl
theorem cmp_scale (x y c : Int) (hc : 0 < c) : compare (x * c) (y * c) = compare x y := by
  show compareOfLessAndEq (x * c) (y * c) = compareOfLessAndEq x y
  unfold compareOfLessAndEq
  have h1 : x * c < y * c ↔ x < y := ⟨fun h => Int.lt_of_mul_lt_mul_right h (Int.le_of_lt hc), fun h => Int.mul_lt_mul_of_pos_right h hc⟩
  have h2 : x * c = y * c ↔ x = y := ⟨fun h => Int.eq_of_mul_eq_mul_right (Int.ne_of_gt hc) h, fun h => by rw [h]⟩
  simp only [h1, h2]
/-- A magnitude with its sign. -/
def sgn (s : Bool) (m : Nat) : Int := if s then -(m : Int) else (m : Int)
theorem cmp_sgn (s t : Bool) (r q : Nat) : compare (sgn s (mag r)) (sgn t (mag q)) = compare (sgn s r) (sgn t q) := by
  show compareOfLessAndEq _ _ = compareOfLessAndEq _ _
  unfold compareOfLessAndEq
  have z : mag 0 = 0 := by decide
  have h0 : ∀ x, x = 0 ∨ 0 < mag x := fun x => by
    rcases Nat.eq_zero_or_pos x with h | h
    · exact .inl h
    · have := mag_mono h; rw [z] at this; exact .inr this
  have hz : ∀ x, x = 0 → mag x = 0 := fun x h => by rw [h, z]
  have hr := h0 r
  have hq := h0 q
  have hr2 := hz r
  have hq2 := hz q
  have m1 : r < q → mag r < mag q := mag_mono
  have m2 : q < r → mag q < mag r := mag_mono
  have m3 : r = q → mag r = mag q := fun h => by rw [h]
  generalize mag r = a at *
  generalize mag q = c at *
  have h1 : sgn s a < sgn t c ↔ sgn s r < sgn t q := by
    unfold sgn; cases s <;> cases t <;> simp only [Bool.false_eq_true, if_false, if_true] <;> omega
  have h2 : sgn s a = sgn t c ↔ sgn s r = sgn t q := by
    unfold sgn; cases s <;> cases t <;> simp only [Bool.false_eq_true, if_false, if_true] <;> omega
  simp only [h1, h2]
theorem signed_eq (s : Bool) (m u : Nat) : signed s m u = sgn s (m * 2 ^ u) := by
  unfold signed sgn
  simp only [Nat.shiftLeft_eq]
theorem sgn_mul (s : Bool) (m c : Nat) : sgn s m * (c : Int) = sgn s (m * c) := by
  unfold sgn; cases s <;> simp [Int.neg_mul]
theorem cmp_inf_right (s t : Bool) (r : Nat) (h : r < 9218868437227405312) : (if t then Ordering.gt else Ordering.lt) = compare (sgn s r) (sgn t 9218868437227405312) := by
  show _ = compareOfLessAndEq _ _
  unfold compareOfLessAndEq
  cases t
  · have h1 : sgn s r < sgn false 9218868437227405312 := by unfold sgn; cases s <;> simp <;> omega
    rw [if_pos h1]; rfl
  · have h1 : ¬ sgn s r < sgn true 9218868437227405312 := by unfold sgn; cases s <;> simp <;> omega
    have h2 : ¬ sgn s r = sgn true 9218868437227405312 := by unfold sgn; cases s <;> simp <;> omega
    rw [if_neg h1, if_neg h2]; rfl
theorem cmp_inf_left (s t : Bool) (r : Nat) (h : r < 9218868437227405312) : (if s then Ordering.lt else Ordering.gt) = compare (sgn s 9218868437227405312) (sgn t r) := by
  show _ = compareOfLessAndEq _ _
  unfold compareOfLessAndEq
  cases s
  · have h1 : ¬ sgn false 9218868437227405312 < sgn t r := by unfold sgn; cases t <;> simp <;> omega
    have h2 : ¬ sgn false 9218868437227405312 = sgn t r := by unfold sgn; cases t <;> simp <;> omega
    rw [if_neg h1, if_neg h2]; rfl
  · have h1 : sgn true 9218868437227405312 < sgn t r := by unfold sgn; cases t <;> simp <;> omega
    rw [if_pos h1]; rfl
/-- How two words stand to each other is how their keys stand. -/
theorem order_key (a b : Nat) (ha : ¬ nan a) (hb : ¬ nan b) : double.order a b = some (compare (key a) (key b)) := by
  have ha2 : rung a ≤ 9218868437227405312 := by unfold nan at ha; omega
  have hb2 : rung b ≤ 9218868437227405312 := by unfold nan at hb; omega
  have ka : key a = sgn (isNeg a) (rung a) := rfl
  have kb : key b = sgn (isNeg b) (rung b) := rfl
  unfold Format.order
  rcases Nat.lt_or_eq_of_le ha2 with h1 | h1
  · obtain ⟨m, i, e1, hi, hm⟩ := read_fin a h1
    rcases Nat.lt_or_eq_of_le hb2 with h2 | h2
    · obtain ⟨n, j, e2, hj, hn⟩ := read_fin b h2
      rw [e1, e2]
      show some (compare (signed (isNeg a) m (i - min i j).toNat) (signed (isNeg b) n (j - min i j).toNat)) = _
      rw [ka, kb, ← cmp_sgn, ← hm, ← hn, signed_eq, signed_eq]
      rw [← cmp_scale _ _ (((2 ^ (min i j + 1074).toNat : Nat)) : Int) (by have := Nat.two_pow_pos (min i j + 1074).toNat; omega)]
      rw [sgn_mul, sgn_mul, Nat.mul_assoc, Nat.mul_assoc, ← Nat.pow_add, ← Nat.pow_add]
      rw [show (i - min i j).toNat + (min i j + 1074).toNat = (i + 1074).toNat by omega, show (j - min i j).toNat + (min i j + 1074).toNat = (j + 1074).toNat by omega]
    · rw [e1, read_inf b h2]
      show some (if isNeg b then Ordering.gt else Ordering.lt) = _
      congr 1
      rw [ka, kb, h2]
      exact cmp_inf_right _ _ _ h1
  · rcases Nat.lt_or_eq_of_le hb2 with h2 | h2
    · obtain ⟨n, j, e2, hj, hn⟩ := read_fin b h2
      rw [e2, read_inf a h1]
      show some (if isNeg a then Ordering.lt else Ordering.gt) = _
      congr 1
      rw [ka, kb, h1]
      exact cmp_inf_left _ _ _ h2
    · rw [read_inf a h1, read_inf b h2]
      show some (compare (isNeg b).toNat (isNeg a).toNat) = _
      congr 1
      rw [ka, kb, h1, h2]
      unfold sgn
      cases isNeg a <;> cases isNeg b <;> rfl
end Go.Proofs.Ythnjnpighnlodaa.Fl
