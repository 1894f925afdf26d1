/-
  Sums, differences and products of finite floats, as rational numbers.
  Conditions: each theorem's own.
-/
import Derived.Test.YthnjnpighnlodaaFo
namespace Go.Proofs.Ythnjnpighnlodaa.Fl
open Ieee

theorem near_zero (t : Nat) : Near 0 t 0 := by
  have z : mag 0 = 0 := by decide
  refine ⟨?_, ?_, ?_, ?_⟩
  · omega
  · intro h; omega
  · omega
  · rw [z]; omega
theorem nearest_q (neg : Bool) (m : Nat) (p : Int) (t W : Nat) (ht : 0 ≤ p + 1074 + t) (hW : W = m * 2 ^ (p + 1074 + t).toNat) :
    ∃ kk, double.nearest neg m p = double.word neg (min kk 9218868437227405312) ∧ Near W t kk := by
  by_cases hm : m = 0
  · subst hm
    rw [Nat.zero_mul] at hW
    subst hW
    exact ⟨0, by unfold Format.nearest; rw [if_pos rfl]; rfl, near_zero t⟩
  · exact nearest_is neg m p t W hm ht hW
theorem sgn_cast (s : Bool) (m : Nat) : ((sgn s m : Int) : Rat) = if s then -(m : Rat) else (m : Rat) := by
  unfold sgn
  cases s <;> simp [Rat.intCast_natCast, Rat.intCast_neg]
theorem sum_core (s u : Bool) (m n : Nat) (i j : Int) (A C : Int) (hi : -1074 ≤ i) (hj : -1074 ≤ j) (hA : A = sgn s (m * 2 ^ (i + 1074).toNat)) (hC : C = sgn u (n * 2 ^ (j + 1074).toNat))
    (X B : Rat) (hX : X * (unit : Rat) = ((A + C : Int) : Rat)) (h1 : -B ≤ X) (h2 : X ≤ B) (hB : B ≤ big) :
    ∃ r, ((Datum.number s m i).sum (.number u n j)).map double.write = some r ∧ Rounds X B r := by
  have hs : ((Datum.number s m i).sum (.number u n j)) = some (.number (if signed s m (i - min i j).toNat + signed u n (j - min i j).toNat = 0 then s && u else decide (signed s m (i - min i j).toNat + signed u n (j - min i j).toNat < 0)) (signed s m (i - min i j).toNat + signed u n (j - min i j).toNat).natAbs (min i j)) := rfl
  rw [hs]
  rw [signed_eq, signed_eq]
  have hb1 : -1074 ≤ min i j := by omega
  have hb2 : min i j ≤ i := by omega
  have hb3 : min i j ≤ j := by omega
  generalize min i j = b at *
  have hT : (sgn s (m * 2 ^ (i - b).toNat) + sgn u (n * 2 ^ (j - b).toNat)) * ((2 ^ (b + 1074).toNat : Nat) : Int) = A + C := by
    rw [Int.add_mul, sgn_mul, sgn_mul, Nat.mul_assoc, Nat.mul_assoc, ← Nat.pow_add, ← Nat.pow_add, hA, hC]
    rw [show (i - b).toNat + (b + 1074).toNat = (i + 1074).toNat by omega, show (j - b).toNat + (b + 1074).toNat = (j + 1074).toNat by omega]
  generalize sgn s (m * 2 ^ (i - b).toNat) + sgn u (n * 2 ^ (j - b).toNat) = T at *
  generalize hsg : (if T = 0 then s && u else decide (T < 0)) = sg
  obtain ⟨kk, e, hn⟩ := nearest_q sg T.natAbs b 0 (T.natAbs * 2 ^ (b + 1074).toNat) (by omega) (by rw [show (b + 1074 + ((0 : Nat) : Int)).toNat = (b + 1074).toNat by omega])
  refine ⟨_, rfl, ?_⟩
  show Rounds X B (double.nearest sg T.natAbs b)
  rw [e]
  refine rounds sg _ 0 kk hn X B ?_ h1 h2 hB
  have e1 : X * ((unit : Rat) * ((2 ^ 0 : Nat) : Rat)) = X * (unit : Rat) := by
    have : ((2 ^ 0 : Nat) : Rat) = 1 := rfl
    rw [this]; grind
  rw [e1, hX, ← hT, ← sgn_cast]
  congr 1
  unfold sgn
  rw [Int.natCast_mul]
  rcases Int.lt_trichotomy T 0 with h | h | h
  · rw [if_neg (by omega), decide_eq_true h] at hsg
    subst hsg
    rw [if_pos rfl, ← Int.neg_mul]
    congr 1
    omega
  · subst h
    cases sg <;> simp
  · rw [if_neg (by omega), decide_eq_false (by omega)] at hsg
    subst hsg
    rw [if_neg (by decide)]
    congr 1
    omega
theorem V_of {x : Nat} (m : Nat) (i : Int) (hm : m * 2 ^ (i + 1074).toNat = mag (rung x)) : V x = sgn (isNeg x) (m * 2 ^ (i + 1074).toNat) := by rw [hm]; rfl
theorem add_rounds (a b : Nat) (ha : fin a) (hb : fin b) (B : Rat) (h1 : -B ≤ q a + q b) (h2 : q a + q b ≤ B) (hB : B ≤ big) :
    ∃ r, floatBits .add .f64 a b = some r ∧ Rounds (q a + q b) B r := by
  obtain ⟨m, i, e1, hi, hm⟩ := read_fin a ha
  obtain ⟨n, j, e2, hj, hn⟩ := read_fin b hb
  show ∃ r, ((double.read a).sum (double.read b)).map double.write = some r ∧ _
  rw [e1, e2]
  refine sum_core _ _ m n i j (V a) (V b) hi hj (V_of m i hm) (V_of n j hn) _ B ?_ h1 h2 hB
  rw [Rat.intCast_add, ← q_unit a, ← q_unit b]
  grind
theorem sub_rounds (a b : Nat) (ha : fin a) (hb : fin b) (B : Rat) (h1 : -B ≤ q a - q b) (h2 : q a - q b ≤ B) (hB : B ≤ big) :
    ∃ r, floatBits .sub .f64 a b = some r ∧ Rounds (q a - q b) B r := by
  obtain ⟨m, i, e1, hi, hm⟩ := read_fin a ha
  obtain ⟨n, j, e2, hj, hn⟩ := read_fin b hb
  show ∃ r, ((double.read a).sum (double.read b).opposite).map double.write = some r ∧ _
  rw [e1, e2]
  show ∃ r, ((Datum.number (isNeg a) m i).sum (.number (!isNeg b) n j)).map double.write = some r ∧ _
  refine sum_core _ _ m n i j (V a) (-V b) hi hj (V_of m i hm) ?_ _ B ?_ h1 h2 hB
  · rw [V_of n j hn]
    unfold sgn
    cases isNeg b <;> simp
  · rw [Rat.intCast_add, Rat.intCast_neg, ← q_unit a, ← q_unit b]
    grind
theorem mul_rounds (a b : Nat) (ha : fin a) (hb : fin b) (B : Rat) (h1 : -B ≤ q a * q b) (h2 : q a * q b ≤ B) (hB : B ≤ big) :
    ∃ r, floatBits .mul .f64 a b = some r ∧ Rounds (q a * q b) B r := by
  obtain ⟨m, i, e1, hi, hm⟩ := read_fin a ha
  obtain ⟨n, j, e2, hj, hn⟩ := read_fin b hb
  show ∃ r, ((double.read a).product (double.read b)).map double.write = some r ∧ _
  rw [e1, e2]
  have hp : (i + j + 1074 + ((ue : Nat) : Int)).toNat = (i + 1074).toNat + (j + 1074).toNat := by rw [ue_is]; omega
  obtain ⟨kk, e, hk⟩ := nearest_q (isNeg a ^^ isNeg b) (m * n) (i + j) ue (mag (rung a) * mag (rung b)) (by rw [ue_is]; omega) (by
    rw [hp, Nat.pow_add, ← hm, ← hn]
    simp only [Nat.mul_assoc, Nat.mul_left_comm])
  refine ⟨_, rfl, ?_⟩
  show Rounds _ B (double.nearest (isNeg a ^^ isNeg b) (m * n) (i + j))
  rw [e]
  refine rounds _ _ ue kk hk _ B ?_ h1 h2 hB
  rw [← unit_is]
  have e3 : q a * q b * ((unit : Rat) * (unit : Rat)) = (q a * (unit : Rat)) * (q b * (unit : Rat)) := by grind
  rw [e3, q_unit, q_unit]
  unfold V
  rw [sgn_cast, sgn_cast, Rat.natCast_mul]
  cases isNeg a <;> cases isNeg b <;> simp <;> grind
end Go.Proofs.Ythnjnpighnlodaa.Fl
