/-
  Rounding to nearest: what a rounded number is, as a rung, against every magnitude that can be written, and how far off it is.
  Conditions: each theorem's own.
-/
import Derived.Test.YthnjnpighnlodaaFl
namespace Go.Proofs.Ythnjnpighnlodaa.Fl
open Ieee

/-- A magnitude at a place E, of at most 2^53 units. -/
theorem mag_at (E k : Nat) (h : k ≤ 9007199254740992) (h2 : E = 0 ∨ 4503599627370496 ≤ k) : mag (E * 4503599627370496 + k) = k * 2 ^ E := by
  unfold mag
  rcases Nat.lt_or_ge k 4503599627370496 with h3 | h3
  · rcases h2 with rfl | h2
    · rw [if_pos (by omega)]; simp
    · omega
  · rw [if_neg (by omega)]
    rcases Nat.lt_or_eq_of_le h with h4 | rfl
    · have e1 : (E * 4503599627370496 + k) / 4503599627370496 = E + 1 := by omega
      have e2 : (E * 4503599627370496 + k) % 4503599627370496 = k - 4503599627370496 := by omega
      rw [e1, e2]
      rw [show 4503599627370496 + (k - 4503599627370496) = k by omega, show E + 1 - 1 = E by omega]
    · have e1 : (E * 4503599627370496 + 9007199254740992) / 4503599627370496 = E + 2 := by omega
      have e2 : (E * 4503599627370496 + 9007199254740992) % 4503599627370496 = 0 := by omega
      rw [e1, e2, show E + 2 - 1 = E + 1 by omega, Nat.pow_succ]
      omega
theorem mag_le {r s : Nat} (h : r ≤ s) : mag r ≤ mag s := by
  rcases Nat.lt_or_eq_of_le h with h1 | rfl
  · exact Nat.le_of_lt (mag_mono h1)
  · exact Nat.le_refl _
theorem rung_le {r s : Nat} (h : mag r ≤ mag s) : r ≤ s := by
  rcases Nat.lt_or_ge s r with h1 | h1
  · have := mag_mono h1; omega
  · exact h1
theorem rung_lt {r s : Nat} (h : mag r < mag s) : r < s := by
  rcases Nat.lt_or_ge r s with h1 | h1
  · exact h1
  · have := mag_le h1; omega
/-- What a cut to the nearest leaves is half a unit off at the most. -/
theorem cut_near (neg : Bool) (n d : Nat) : 2 * (Toward.even.cut neg n d * 2 ^ d) ≤ 2 * n + 2 ^ d ∧ 2 * n ≤ 2 * (Toward.even.cut neg n d * 2 ^ d) + 2 ^ d := by
  unfold Toward.cut
  simp only [Nat.one_shiftLeft]
  rcases Nat.le_total d (n.log2 + 2) with h | h
  · rw [Nat.min_eq_left h]
    have hpos : 0 < 2 ^ d := Nat.two_pow_pos _
    generalize 2 ^ d = g at *
    have e := Nat.div_add_mod n g
    have hr := Nat.mod_lt n hpos
    rw [Nat.mul_comm] at e
    generalize n % g = r at *
    generalize n / g = q at *
    by_cases hb : (decide (g < 2 * r) || g == 2 * r && q % 2 == 1) = true
    · have h3 : g ≤ 2 * r := by
        simp only [Bool.or_eq_true, decide_eq_true_eq, Bool.and_eq_true, beq_iff_eq] at hb
        omega
      rw [hb]
      show 2 * ((q + 1) * g) ≤ _ ∧ _ ≤ 2 * ((q + 1) * g) + g
      rw [Nat.add_mul]
      omega
    · have h3 : 2 * r ≤ g := by
        simp only [Bool.or_eq_true, decide_eq_true_eq, Bool.and_eq_true, beq_iff_eq] at hb
        omega
      rw [Bool.not_eq_true] at hb
      rw [hb]
      show 2 * ((q + 0) * g) ≤ _ ∧ _ ≤ 2 * ((q + 0) * g) + g
      rw [Nat.add_zero]
      omega
  · rw [Nat.min_eq_right h]
    have h1 : n < 2 ^ (n.log2 + 1) := Nat.lt_log2_self
    have h2 : 2 ^ (n.log2 + 2) = 2 * 2 ^ (n.log2 + 1) := by rw [← Nat.pow_succ']
    have h3 : 2 ^ (n.log2 + 2) ≤ 2 ^ d := Nat.pow_le_pow_right (by decide) h
    have e1 : n / 2 ^ (n.log2 + 2) = 0 := Nat.div_eq_of_lt (by omega)
    have e2 : n % 2 ^ (n.log2 + 2) = n := Nat.mod_eq_of_lt (by omega)
    rw [e1, e2]
    have hb : (decide (2 ^ (n.log2 + 2) < 2 * n) || 2 ^ (n.log2 + 2) == 2 * n && 0 % 2 == 1) = false := by
      simp; omega
    rw [hb]
    show 2 * (0 * _) ≤ _ ∧ _ ≤ 2 * (0 * _) + _
    rw [Nat.zero_mul]
    omega
/-- What rounding leaves: a rung, or infinity's; V is the number in units of 2^-(1074+t). -/
structure Near (V t kk : Nat) : Prop where
  up : 2 * V ≤ (mag kk + mag (kk + 1)) * 2 ^ t
  dn : 1 ≤ kk → (mag (kk - 1) + mag kk) * 2 ^ t ≤ 2 * V
  e1 : 9007199254740992 * V ≤ 9007199254740992 * (mag kk * 2 ^ t) + V + 4503599627370496 * 2 ^ t
  e2 : 9007199254740992 * (mag kk * 2 ^ t) ≤ 9007199254740992 * V + V + 4503599627370496 * 2 ^ t
theorem near_core (E k t V : Nat) (hk : k ≤ 9007199254740992) (hE : E = 0 ∨ (4503599627370496 ≤ k ∧ 4503599627370496 * 2 ^ (E + t) ≤ V)) (h1 : 2 * (k * 2 ^ (E + t)) ≤ 2 * V + 2 ^ (E + t)) (h2 : 2 * V ≤ 2 * (k * 2 ^ (E + t)) + 2 ^ (E + t)) : Near V t (E * 4503599627370496 + k) := by
  have hm : mag (E * 4503599627370496 + k) = k * 2 ^ E := mag_at E k hk (by omega)
  have hmt : mag (E * 4503599627370496 + k) * 2 ^ t = k * 2 ^ (E + t) := by rw [hm, Nat.pow_add, Nat.mul_assoc]
  have hp : 2 ^ E * 2 ^ t = 2 ^ (E + t) := by rw [Nat.pow_add]
  have hpos : 0 < 2 ^ (E + t) := Nat.two_pow_pos _
  have htpos : 0 < 2 ^ t := Nat.two_pow_pos _
  refine ⟨?_, ?_, ?_, ?_⟩
  · have hnext : (k + 1) * 2 ^ E ≤ mag (E * 4503599627370496 + k + 1) := by
      rcases Nat.lt_or_eq_of_le hk with h | rfl
      · rw [Nat.add_assoc, mag_at E (k + 1) (by omega) (by omega)]
        exact Nat.le_refl _
      · have e : E * 4503599627370496 + 9007199254740992 + 1 = (E + 1) * 4503599627370496 + 4503599627370497 := by omega
        rw [e, mag_at (E + 1) _ (by omega) (by omega), Nat.pow_succ]
        have := Nat.two_pow_pos E
        omega
    have h3 := Nat.mul_le_mul_right (2 ^ t) hnext
    rw [Nat.mul_assoc, hp, Nat.add_mul] at h3
    rw [Nat.add_mul, hmt]
    omega
  · intro hk1
    have hprev : 2 * (mag (E * 4503599627370496 + k - 1) * 2 ^ t) ≤ 2 * V - k * 2 ^ (E + t) + (2 * V - k * 2 ^ (E + t)) ∧ mag (E * 4503599627370496 + k - 1) * 2 ^ t + k * 2 ^ (E + t) ≤ 2 * V := by
      by_cases hc : k = 4503599627370496 ∧ E ≠ 0
      · have hlt := mag_mono (show E * 4503599627370496 + k - 1 < E * 4503599627370496 + k by omega)
        have h3 := Nat.mul_le_mul_right (2 ^ t) (Nat.le_of_lt hlt)
        rw [hmt] at h3
        have h4 : k * 2 ^ (E + t) ≤ V := by rw [hc.1]; omega
        omega
      · have hk0 : 1 ≤ k := by omega
        have e : E * 4503599627370496 + k - 1 = E * 4503599627370496 + (k - 1) := by omega
        have hm1 : mag (E * 4503599627370496 + k - 1) * 2 ^ t = (k - 1) * 2 ^ (E + t) := by
          rw [e, mag_at E (k - 1) (by omega) (by omega), Nat.mul_assoc, hp]
        rw [hm1]
        have e2 : (k - 1) * 2 ^ (E + t) + 2 ^ (E + t) = k * 2 ^ (E + t) := by
          have : k = k - 1 + 1 := by omega
          calc (k - 1) * 2 ^ (E + t) + 2 ^ (E + t) = (k - 1 + 1) * 2 ^ (E + t) := by rw [Nat.add_mul, Nat.one_mul]
            _ = k * 2 ^ (E + t) := by rw [← this]
        omega
    rw [Nat.add_mul, hmt]
    exact hprev.2
  · rw [hmt]
    rcases hE with rfl | ⟨_, h3⟩
    · simp only [Nat.zero_add] at *
      omega
    · omega
  · rw [hmt]
    rcases hE with rfl | ⟨_, h3⟩
    · simp only [Nat.zero_add] at *
      omega
    · omega
/-- The nearest word of a number: V = m * 2^place in units of 2^-(1074+t). -/
theorem nearest_is (neg : Bool) (m : Nat) (p : Int) (t V : Nat) (hm : m ≠ 0) (ht : 0 ≤ p + 1074 + t) (hV : V = m * 2 ^ (p + 1074 + t).toNat) :
    ∃ kk, double.nearest neg m p = double.word neg (min kk 9218868437227405312) ∧ Near V t kk := by
  have hf : double.fractionBits = 52 := rfl
  unfold Format.nearest
  rw [if_neg hm]
  simp only [lp, bn, inf, hf]
  have hl1 : 2 ^ m.log2 ≤ m := Nat.log2_self_le hm
  have hl2 : m < 2 ^ (m.log2 + 1) := Nat.lt_log2_self
  generalize m.log2 = l at *
  rcases Int.le_total (-1074) (p + (l : Int) - ((52 : Nat) : Int)) with hc | hc
  · -- the last digit that is kept is one of 53
    rw [Int.max_eq_left hc]
    have hE : ((p + (l : Int) - ((52 : Nat) : Int)) - (-1074)).toNat = (p + l + 1022).toNat := by omega
    rw [hE]
    refine ⟨_, rfl, ?_⟩
    rcases Nat.le_total l 52 with hl | hl
    · -- nothing is dropped
      have e1 : (p - (p + (l : Int) - ((52 : Nat) : Int))).toNat = 52 - l := by omega
      have e2 : ((p + (l : Int) - ((52 : Nat) : Int)) - p).toNat = 0 := by omega
      rw [e1, e2]
      have hcut := cut_near neg (m <<< (52 - l)) 0
      rw [Nat.shiftLeft_eq] at *
      simp only [Nat.pow_zero, Nat.mul_one] at hcut
      have hke : Toward.even.cut neg (m * 2 ^ (52 - l)) 0 = m * 2 ^ (52 - l) := by omega
      rw [hke]
      have hb1 : 4503599627370496 ≤ m * 2 ^ (52 - l) := by
        have h3 := Nat.mul_le_mul_right (2 ^ (52 - l)) hl1
        rw [← Nat.pow_add, show l + (52 - l) = 52 by omega] at h3
        exact h3
      have hb2 : m * 2 ^ (52 - l) ≤ 9007199254740992 := by
        have h3 := Nat.mul_le_mul_right (2 ^ (52 - l)) (Nat.le_of_lt hl2)
        rw [← Nat.pow_add, show l + 1 + (52 - l) = 53 by omega] at h3
        exact h3
      have hVe : V = m * 2 ^ (52 - l) * 2 ^ ((p + l + 1022).toNat + t) := by
        rw [hV, Nat.mul_assoc, ← Nat.pow_add]
        congr 2
        omega
      refine near_core _ _ _ _ hb2 (Or.inr ⟨hb1, ?_⟩) ?_ ?_
      · rw [hVe]; exact Nat.mul_le_mul_right _ hb1
      · rw [hVe]; exact Nat.le_add_right _ _
      · rw [hVe]; exact Nat.le_add_right _ _
    · have e1 : (p - (p + (l : Int) - ((52 : Nat) : Int))).toNat = 0 := by omega
      have e2 : ((p + (l : Int) - ((52 : Nat) : Int)) - p).toNat = l - 52 := by omega
      rw [e1, e2, Nat.shiftLeft_zero]
      have hcut := cut_near neg m (l - 52)
      generalize Toward.even.cut neg m (l - 52) = k at *
      have hs : l = 52 + (l - 52) := by omega
      generalize l - 52 = d at *
      subst hs
      have hd : 0 < 2 ^ d := Nat.two_pow_pos _
      have hl3 : 4503599627370496 * 2 ^ d ≤ m := by
        have := hl1; rw [Nat.pow_add] at this; exact this
      have hl4 : m < 9007199254740992 * 2 ^ d := by
        have h3 := hl2
        rw [show 52 + d + 1 = 53 + d by omega, Nat.pow_add] at h3; exact h3
      have hb2 : k ≤ 9007199254740992 := by
        rcases Nat.lt_or_ge 9007199254740992 k with h | h
        · have := Nat.mul_le_mul_right (2 ^ d) h
          rw [Nat.succ_mul] at this
          omega
        · exact h
      have hb1 : 4503599627370496 ≤ k := by
        rcases Nat.lt_or_ge k 4503599627370496 with h | h
        · have := Nat.mul_le_mul_right (2 ^ d) (Nat.succ_le_of_lt h)
          rw [Nat.succ_mul] at this
          omega
        · exact h
      have hq : (p + ((52 + d : Nat) : Int) + 1022).toNat + t = d + (p + 1074 + (t : Int)).toNat := by omega
      generalize (p + 1074 + (t : Int)).toNat = q at *
      have hs1 := Nat.mul_le_mul_right (2 ^ q) hcut.1
      have hs2 := Nat.mul_le_mul_right (2 ^ q) hcut.2
      have hs3 := Nat.mul_le_mul_right (2 ^ q) hl3
      have hpw : 2 ^ d * 2 ^ q = 2 ^ (d + q) := (Nat.pow_add 2 d q).symm
      rw [Nat.add_mul, Nat.mul_assoc, Nat.mul_assoc, Nat.mul_assoc, hpw, ← hV] at hs1
      rw [Nat.add_mul, Nat.mul_assoc, Nat.mul_assoc, Nat.mul_assoc, hpw, ← hV] at hs2
      rw [Nat.mul_assoc, hpw, ← hV] at hs3
      refine near_core _ _ _ _ hb2 (Or.inr ⟨hb1, ?_⟩) ?_ ?_ <;> rw [hq] <;> assumption
  · rw [Int.max_eq_right hc]
    rcases Int.le_total (-1074) p with hp | hp
    · have e1 : (p - (-1074)).toNat = (p + 1074).toNat := by omega
      have e2 : ((-1074 : Int) - p).toNat = 0 := by omega
      rw [e1, e2, show ((-1074 : Int) - (-1074)).toNat = 0 from rfl]
      have hcut := cut_near neg (m <<< (p + 1074).toNat) 0
      rw [Nat.shiftLeft_eq] at *
      simp only [Nat.pow_zero, Nat.mul_one] at hcut
      have hke : Toward.even.cut neg (m * 2 ^ (p + 1074).toNat) 0 = m * 2 ^ (p + 1074).toNat := by omega
      rw [hke]
      refine ⟨_, rfl, ?_⟩
      have hb2 : m * 2 ^ (p + 1074).toNat ≤ 9007199254740992 := by
        have h3 := Nat.mul_le_mul_right (2 ^ (p + 1074).toNat) (Nat.le_of_lt hl2)
        rw [← Nat.pow_add] at h3
        have h4 : 2 ^ (l + 1 + (p + 1074).toNat) ≤ 2 ^ 53 := Nat.pow_le_pow_right (by decide) (by omega)
        exact Nat.le_trans h3 h4
      have hVe : V = m * 2 ^ (p + 1074).toNat * 2 ^ (0 + t) := by
        rw [hV, Nat.mul_assoc, ← Nat.pow_add]
        congr 2
        omega
      refine near_core _ _ _ _ hb2 (Or.inl rfl) ?_ ?_
      · rw [hVe]; exact Nat.le_add_right _ _
      · rw [hVe]; exact Nat.le_add_right _ _
    · have e1 : (p - (-1074)).toNat = 0 := by omega
      rw [e1, Nat.shiftLeft_zero, show ((-1074 : Int) - (-1074)).toNat = 0 from rfl]
      refine ⟨_, rfl, ?_⟩
      have hcut := cut_near neg m ((-1074 : Int) - p).toNat
      generalize Toward.even.cut neg m ((-1074 : Int) - p).toNat = k at *
      have hd1 : ((-1074 : Int) - p).toNat + (p + 1074 + (t : Int)).toNat = t := by omega
      have hd2 : l ≤ 52 + ((-1074 : Int) - p).toNat := by omega
      generalize ((-1074 : Int) - p).toNat = d at *
      generalize (p + 1074 + (t : Int)).toNat = q at *
      subst hd1
      have hd : 0 < 2 ^ d := Nat.two_pow_pos _
      have hl4 : m < 9007199254740992 * 2 ^ d := by
        have h3 : 2 ^ (l + 1) ≤ 2 ^ (53 + d) := Nat.pow_le_pow_right (by decide) (by omega)
        rw [Nat.pow_add 2 53 d] at h3
        exact Nat.lt_of_lt_of_le hl2 h3
      have hb2 : k ≤ 9007199254740992 := by
        rcases Nat.lt_or_ge 9007199254740992 k with h | h
        · have := Nat.mul_le_mul_right (2 ^ d) h
          rw [Nat.succ_mul] at this
          omega
        · exact h
      have hs1 := Nat.mul_le_mul_right (2 ^ q) hcut.1
      have hs2 := Nat.mul_le_mul_right (2 ^ q) hcut.2
      have hpw : 2 ^ d * 2 ^ q = 2 ^ (d + q) := (Nat.pow_add 2 d q).symm
      rw [Nat.add_mul, Nat.mul_assoc, Nat.mul_assoc, Nat.mul_assoc, hpw, ← hV] at hs1
      rw [Nat.add_mul, Nat.mul_assoc, Nat.mul_assoc, Nat.mul_assoc, hpw, ← hV] at hs2
      refine near_core _ _ _ _ hb2 (Or.inl rfl) ?_ ?_ <;> rw [Nat.zero_add] <;> assumption
/-- Rounding never turns an order against a magnitude that can be written. -/
theorem Near.ge {V t kk R : Nat} (h : Near V t kk) (hr : mag R * 2 ^ t ≤ V) : R ≤ kk := by
  rcases Nat.lt_or_ge kk R with h1 | h1
  · have h2 := Nat.mul_le_mul_right (2 ^ t) (mag_le (show kk + 1 ≤ R by omega))
    have h3 : mag kk * 2 ^ t < mag (kk + 1) * 2 ^ t := Nat.mul_lt_mul_of_pos_right (mag_mono (by omega)) (Nat.two_pow_pos _)
    have h4 := h.up
    rw [Nat.add_mul] at h4
    omega
  · exact h1
theorem Near.le {V t kk R : Nat} (h : Near V t kk) (hr : V ≤ mag R * 2 ^ t) : kk ≤ R := by
  rcases Nat.lt_or_ge R kk with h1 | h1
  · have h2 := Nat.mul_le_mul_right (2 ^ t) (mag_le (show R ≤ kk - 1 by omega))
    have h3 : mag (kk - 1) * 2 ^ t < mag kk * 2 ^ t := Nat.mul_lt_mul_of_pos_right (mag_mono (by omega)) (Nat.two_pow_pos _)
    have h4 := h.dn (by omega)
    rw [Nat.add_mul] at h4
    omega
  · exact h1
theorem Near.eq {V t kk R : Nat} (h : Near V t kk) (hr : V = mag R * 2 ^ t) : kk = R := Nat.le_antisymm (h.le (by omega)) (h.ge (by omega))
/-- What has at most 53 binary digits can be written. -/
theorem rung_of (e : Nat) : ∀ m, m ≤ 9007199254740992 → ∃ R, mag R = m * 2 ^ e := by
  induction e with
  | zero => exact fun m h => ⟨0 * 4503599627370496 + m, mag_at 0 m h (.inl rfl)⟩
  | succ e ih =>
    intro m h
    rcases Nat.lt_or_ge m 4503599627370497 with h1 | h1
    · obtain ⟨R, hR⟩ := ih (2 * m) (by omega)
      refine ⟨R, ?_⟩
      rw [hR, Nat.pow_succ, Nat.mul_comm (2 ^ e) 2, ← Nat.mul_assoc, Nat.mul_comm m 2]
    · exact ⟨_, mag_at (e + 1) m h (.inr (by omega))⟩
end Go.Proofs.Ythnjnpighnlodaa.Fl
