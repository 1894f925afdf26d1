/-
  What is smoothed lies between the two, up to what rounding makes; and the bounds that the statement reckons leave more room than that.
  Conditions: each theorem's own.
-/
import Derived.Test.YthnjnpighnlodaaFq
namespace Go.Proofs.Ythnjnpighnlodaa
open Go.RowKit Fl

namespace Fl
theorem mul_bound (B o c u : Rat) (h1 : -B ≤ o) (h2 : o ≤ B) (h3 : -c ≤ u) (h4 : u ≤ c) : o * u ≤ B * c ∧ -(B * c) ≤ o * u := by
  have a1 := Rat.mul_nonneg (a := B - o) (b := c + u) (by grind) (by grind)
  have a2 := Rat.mul_nonneg (a := B + o) (b := c - u) (by grind) (by grind)
  have a3 := Rat.mul_nonneg (a := B - o) (b := c - u) (by grind) (by grind)
  have a4 := Rat.mul_nonneg (a := B + o) (b := c + u) (by grind) (by grind)
  constructor <;> grind
theorem between (o x t l h : Rat) (h1 : l ≤ o) (h2 : l ≤ x) (h3 : o ≤ h) (h4 : x ≤ h) (h5 : 0 < t) (h6 : t < 1) : l ≤ o * (1 - t) + x * t ∧ o * (1 - t) + x * t ≤ h := by
  have a1 := Rat.mul_nonneg (a := o - l) (b := 1 - t) (by grind) (by grind)
  have a2 := Rat.mul_nonneg (a := x - l) (b := t) (by grind) (by grind)
  have a3 := Rat.mul_nonneg (a := h - o) (b := 1 - t) (by grind) (by grind)
  have a4 := Rat.mul_nonneg (a := h - x) (b := t) (by grind) (by grind)
  constructor <;> grind
theorem margin (l h d p1 s p2 rm room e t3 B K K2 : Rat) (hlh : l ≤ h) (hB : B = K + K2) (he : 9007199254740992 * e = 10 * B + 11)
   (t0 : 0 ≤ t3) (hK : (l < 0 ∧ K = -l) ∨ (0 ≤ l ∧ K = l)) (hK2 : (h < 0 ∧ K2 = -h) ∨ (0 ≤ h ∧ K2 = h))
   (d2 : h - l - d ≤ e) (p12 : d * (4835703278458517 / 4835703278458516698824704) - p1 ≤ e) (s2 : h + t3 - s ≤ e) (p22 : s * (4835703278458517 / 4835703278458516698824704) - p2 ≤ e) (r2 : p1 + p2 - rm ≤ e) (hr : rm ≤ room) (hr0 : 0 ≤ room) :
   room + (4835703278458517 / 4835703278458516698824704) * K + 5 * e ≥ B * (1/10000000000) ∧ room + (4835703278458517 / 4835703278458516698824704) * K2 + 5 * e ≥ B * (1 / 10000000000) := by
  have h1 : rm ≥ (2 * h - l) * (4835703278458517 / 4835703278458516698824704) - 5 * e := by grind
  clear d2 p12 s2 p22 r2
  have e0 : 0 ≤ e := by grind
  rcases hK with ⟨a, rfl⟩ | ⟨a, rfl⟩
  · rcases hK2 with ⟨b, rfl⟩ | ⟨b, rfl⟩
    · constructor
      · grind
      · rcases (by grind : 4 * h ≤ l ∨ l ≤ 4 * h) with c | c <;> grind
    · constructor <;> grind
  · rcases hK2 with ⟨b, rfl⟩ | ⟨b, rfl⟩
    · grind
    · constructor <;> grind
theorem low_side (l y room l1 l2 p3 l3 e B K : Rat) (he : 9007199254740992 * e = 10 * B + 11) (hB : 0 ≤ B) (hl : l - y ≤ 3 * e)
  (hm : room + (4835703278458517 / 4835703278458516698824704) * K + 5 * e ≥ B * (1/10000000000))
  (a1 : l1 - (l - room) ≤ e) (a2 : l2 - (l1 - 4835703278458517 / 4835703278458516698824704) ≤ e) (a3 : K * (4835703278458517 / 4835703278458516698824704) - p3 ≤ e) (a4 : l3 - (l2 - p3) ≤ e) : l3 < y := by grind
theorem high_side (h y room l1 l2 p3 l3 e B K : Rat) (he : 9007199254740992 * e = 10 * B + 11) (hB : 0 ≤ B) (hl : y - h ≤ 3 * e)
  (hm : room + (4835703278458517 / 4835703278458516698824704) * K + 5 * e ≥ B * (1/10000000000))
  (a1 : (h + room) - l1 ≤ e) (a2 : (l1 + 4835703278458517 / 4835703278458516698824704) - l2 ≤ e) (a3 : K * (4835703278458517 / 4835703278458516698824704) - p3 ≤ e) (a4 : (l2 + p3) - l3 ≤ e) : y < l3 := by grind

/-- A word's value, from its magnitude. -/
theorem q_pos (R : Nat) (h : R < 9218868437227405312) : q R * (unit : Rat) = (mag R : Rat) := by
  have h1 := rung_small (Nat.le_of_lt h)
  have e := q_unit R
  have e2 : V R = (mag R : Int) := by unfold V; rw [h1.1, h1.2.1]; rfl
  rw [e2, Rat.intCast_natCast] at e
  exact e
theorem fin_pos {R : Nat} (h : R < 9218868437227405312) : fin R := by
  unfold fin; rw [(rung_small (Nat.le_of_lt h)).1]; exact h
theorem mul_unit_eq {a b : Rat} (h : a * (unit : Rat) = b * (unit : Rat)) : a = b := by
  have hu := unitQ
  have h3 : (a - b) * (unit : Rat) = 0 := by grind
  rcases Rat.mul_eq_zero.1 h3 with h | h <;> grind
theorem mul_unit_le {a b : Rat} (h : a * (unit : Rat) ≤ b * (unit : Rat)) : a ≤ b := by
  rcases rat_cases b a with h1 | h1
  · have := Rat.mul_lt_mul_of_pos_right h1 unitQ
    grind
  · exact h1
theorem q_zero : q 0 = 0 := by
  refine mul_unit_eq ?_
  rw [q_pos 0 (by decide)]
  show ((0 : Nat) : Rat) = _
  grind
theorem mag_one : mag 4607182418800017408 = 1 * unit := by decide +kernel
theorem q_one : q 4607182418800017408 = 1 := by
  refine mul_unit_eq ?_
  rw [q_pos _ (by decide), mag_one, Rat.natCast_mul]
  rfl
theorem mag_c : mag 4472406533629990549 * 4835703278458516698824704 = 4835703278458517 * unit := by decide +kernel
theorem q_c : q 4472406533629990549 = 4835703278458517 / 4835703278458516698824704 := by
  have h := q_pos 4472406533629990549 (by decide)
  have h2 : ((mag 4472406533629990549 * 4835703278458516698824704 : Nat) : Rat) = ((4835703278458517 * unit : Nat) : Rat) := by rw [mag_c]
  rw [Rat.natCast_mul, Rat.natCast_mul, ← h] at h2
  have c1 : ((4835703278458516698824704 : Nat) : Rat) = 4835703278458516698824704 := rfl
  have c2 : ((4835703278458517 : Nat) : Rat) = 4835703278458517 := rfl
  rw [c1, c2] at h2
  refine mul_unit_eq ?_
  grind
theorem mag_t : mag 118622047889322841 ≤ 1 * unit := by decide +kernel
theorem q_t : 0 ≤ q 118622047889322841 ∧ q 118622047889322841 ≤ 1 := by
  have h := q_pos 118622047889322841 (by decide)
  constructor
  · refine mul_unit_le ?_
    rw [h]
    have : (0 : Rat) ≤ (mag 118622047889322841 : Rat) := Rat.natCast_nonneg
    grind
  · refine mul_unit_le ?_
    rw [h]
    have := Rat.natCast_le_natCast.2 mag_t
    rw [Rat.natCast_mul] at this
    exact this
def M : Rat := q 9094988921128908188
theorem mag_M1 : 1 * unit ≤ mag 9094988921128908188 := by decide +kernel
theorem mag_M2 : 1000 * mag 9094988921128908188 ≤ mag bigR := by decide +kernel
theorem M_one : 1 ≤ M ∧ 1000 * M ≤ big := by
  have h := q_pos 9094988921128908188 (by decide)
  constructor
  · refine mul_unit_le ?_
    unfold M
    rw [h]
    have := Rat.natCast_le_natCast.2 mag_M1
    rw [Rat.natCast_mul] at this
    exact this
  · refine mul_unit_le ?_
    rw [big_unit]
    have := Rat.natCast_le_natCast.2 mag_M2
    rw [Rat.natCast_mul, ← h] at this
    have c1 : ((1000 : Nat) : Rat) = 1000 := rfl
    rw [c1] at this
    unfold M
    grind
attribute [irreducible] M
theorem M_neg : q 18318360957983683996 = -M := by
  have h : Op.negFloat .f64 9094988921128908188 = 18318360957983683996 := by decide
  rw [← h, q_neg]
  unfold M
  rfl
end Fl

/-- What is smoothed of two finite numbers that are not greater than some. -/
theorem smooth_near (o x t : Nat) (ho : fin o) (hx : fin x) (ht : ¬ nan t) (ho1 : -M ≤ q o) (ho2 : q o ≤ M) (hx1 : -M ≤ q x) (hx2 : q x ≤ M) :
    ∃ y, smoothC o x t = some y ∧ fin y ∧ ∀ l h B : Rat, l ≤ q o → l ≤ q x → q o ≤ h → q x ≤ h → -B ≤ l → h ≤ B → B ≤ 2 * M →
      9007199254740992 * (l - q y) ≤ 30 * B + 33 ∧ 9007199254740992 * (q y - h) ≤ 30 * B + 33 := by
  have n1 : nanB x = false := decide_eq_false (fin_num hx)
  have n2 : nanB o = false := decide_eq_false (fin_num ho)
  rcases weight_cases t with ⟨h0, _, _⟩ | ⟨h0, h3, h1, h2⟩ | ⟨h0, _, h1, h2⟩ | ⟨h0, _, h1, h2⟩
  · refine ⟨o, by unfold smoothC; simp only [n1, n2, h0]; rfl, ho, ?_⟩
    intro l h B _ _ _ _ _ _ _
    constructor <;> grind
  · have e : smoothC o x t = arC .add (arC .mul (some o) (arC .sub (some one) (some t))) (arC .mul (some x) (some t)) := by unfold smoothC; simp only [n1, n2, h0, h1, h2]; rfl
    have k0 : key 0 < key t := by rw [o_gt t 0 ht (by decide)] at h0; exact of_decide_eq_true h0
    have k1 : key t < key one := by rw [o_lt t one ht (by decide)] at h3; exact of_decide_eq_true h3
    have hft : fin t := by
      have z : key 0 = 0 := by decide
      have z1 : key one = 4607182418800017408 := by decide
      rw [z] at k0
      rw [z1] at k1
      unfold key at k0 k1
      unfold fin
      split at k0
      · omega
      · rename_i hn
        rw [if_neg hn] at k1
        omega
    have t0 : 0 < q t := by
      have := (q_lt 0 t).2 k0
      rw [q_zero] at this
      exact this
    have t1 : q t < 1 := by
      have := (q_lt t one).2 k1
      have e1 : q one = 1 := q_one
      rw [e1] at this
      exact this
    have hM := M_one
    have e1 : q one = 1 := q_one
    obtain ⟨u, eu, ru⟩ := sub_rounds one t (fin_pos (by decide)) hft 1 (by rw [e1]; grind) (by rw [e1]; grind) (by grind)
    rw [e1] at ru
    have u1 := ru.up
    have u2 := ru.dn
    have mb := mul_bound M (q o) 2 (q u) ho1 ho2 (by grind) (by grind)
    obtain ⟨a, ea, ra⟩ := mul_rounds o u ho ru.fin (2 * M) (by grind) (by grind) (by grind)
    have mc := mul_bound M (q x) 1 (q t) hx1 hx2 (by grind) (by grind)
    obtain ⟨c, ec, rc⟩ := mul_rounds x t hx hft M (by grind) (by grind) (by grind)
    have a1 := ra.up
    have a2 := ra.dn
    have c1 := rc.up
    have c2 := rc.dn
    obtain ⟨y, ey, ry⟩ := add_rounds a c ra.fin rc.fin (4 * M) (by grind) (by grind) (by grind)
    refine ⟨y, ?_, ry.fin, ?_⟩
    · rw [e]
      show arC .add (arC .mul (some o) (floatBits .sub .f64 one t)) (floatBits .mul .f64 x t) = _
      rw [eu, ec]
      show arC .add (floatBits .mul .f64 o u) (some c) = _
      rw [ea]
      exact ey
    · clear a1 a2 c1 c2 mb mc
      intro l h B g1 g2 g3 g4 g5 g6 g7
      have mb := mul_bound B (q o) 2 (q u) (by grind) (by grind) (by grind) (by grind)
      have mc := mul_bound B (q x) 1 (q t) (by grind) (by grind) (by grind) (by grind)
      have md := mul_bound B (q o) (2 / 9007199254740992) (q u - (1 - q t)) (by grind) (by grind) (by grind) (by grind)
      have mm := between (q o) (q x) (q t) l h g1 g2 g3 g4 t0 t1
      obtain ⟨a2, ea2, ra2⟩ := mul_rounds o u ho ru.fin (2 * B) (by grind) (by grind) (by grind)
      obtain ⟨c2, ec2, rc2⟩ := mul_rounds x t hx hft B (by grind) (by grind) (by grind)
      obtain rfl : a = a2 := by rw [ea] at ea2; exact Option.some.inj ea2
      obtain rfl : c = c2 := by rw [ec] at ec2; exact Option.some.inj ec2
      have a1 := ra2.up
      have a2 := ra2.dn
      have c1 := rc2.up
      have c2 := rc2.dn
      obtain ⟨y2, ey2, ry2⟩ := add_rounds a c ra.fin rc.fin (4 * B + 1) (by grind) (by grind) (by grind)
      obtain rfl : y = y2 := by rw [ey] at ey2; exact Option.some.inj ey2
      have y1 := ry2.up
      have y2 := ry2.dn
      constructor <;> grind
  · refine ⟨x, by unfold smoothC; simp only [n1, n2, h0, h1]; rfl, hx, ?_⟩
    intro l h B _ _ _ _ _ _ _
    constructor <;> grind
  · refine ⟨x, by unfold smoothC; simp only [n1, n2, h0, h1, h2]; rfl, hx, ?_⟩
    intro l h B _ _ _ _ _ _ _
    constructor <;> grind
end Go.Proofs.Ythnjnpighnlodaa
