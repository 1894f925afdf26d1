/-
  The bounds that the statement reckons, for two finite numbers that are not greater than some, and a third one that lies between them up to what rounding makes.
  Conditions: each theorem's own.
-/
import Derived.Test.YthnjnpighnlodaaFr
namespace Go.Proofs.Ythnjnpighnlodaa
open Go.RowKit Fl

def absW (x : Nat) : Nat := if (FloatKind.f64.format.order x 0 == some .lt) = true then Op.negFloat .f64 x else x
@[go_sem] theorem run_negf {P : Program} (x : Nat) (w : World) : (Op.unary .neg (.float .f64 x)).run P w = .ok (.float .f64 (Op.negFloat .f64 x)) w := rfl
theorem abs_any (x : Nat) (w : World) : Calls Try.prog 19 #[.float .f64 x] w fun e w' => e = .returned (.float .f64 (absW x)) ∧ w = w' := by
  cases h : (FloatKind.f64.format.order x 0 == some .lt)
  · have hc : Hid (absW x = x) := Lib.hid (by unfold absW; rw [h]; rfl)
    go_enter Try.func19, Try.ntmps19
    go_wp2
    go_ret
    exact ⟨by rw [hc.out]; rfl, rfl⟩
  · have hc : Hid (absW x = Op.negFloat .f64 x) := Lib.hid (by unfold absW; rw [h]; rfl)
    go_enter Try.func19, Try.ntmps19
    go_wp2
    go_ret
    exact ⟨by rw [hc.out]; rfl, rfl⟩
theorem abs_val {x : Nat} (h : fin x) : fin (absW x) ∧ ((q x < 0 ∧ q (absW x) = -q x) ∨ (0 ≤ q x ∧ q (absW x) = q x)) := by
  have e := o_lt x 0 (fin_num h) (by decide)
  have e2 := q_lt x 0
  rw [q_zero] at e2
  unfold absW
  rw [e]
  by_cases hk : key x < key 0
  · rw [decide_eq_true hk, if_pos rfl]
    exact ⟨fin_neg h, .inl ⟨e2.2 hk, q_neg x⟩⟩
  · rw [decide_eq_false hk, if_neg (by decide)]
    refine ⟨h, .inr ⟨?_, rfl⟩⟩
    rcases rat_cases (q x) 0 with h1 | h1
    · exact absurd (e2.1 h1) hk
    · exact h1
/-- The statement's reckoning: each word, and how y stands to the two bounds. -/
structure Reck (lo hi y d p1 s p2 rm l1 l2 p3 l3 h1 h2 p4 h3 : Nat) : Prop where
  ed : floatBits .sub .f64 hi lo = some d
  ep1 : floatBits .mul .f64 d 4472406533629990549 = some p1
  es : floatBits .add .f64 hi 118622047889322841 = some s
  ep2 : floatBits .mul .f64 s 4472406533629990549 = some p2
  erm : floatBits .add .f64 p1 p2 = some rm
  el1 : floatBits .sub .f64 lo (absW rm) = some l1
  el2 : floatBits .sub .f64 l1 4472406533629990549 = some l2
  ep3 : floatBits .mul .f64 (absW lo) 4472406533629990549 = some p3
  el3 : floatBits .sub .f64 l2 p3 = some l3
  eh1 : floatBits .add .f64 hi (absW rm) = some h1
  eh2 : floatBits .add .f64 h1 4472406533629990549 = some h2
  ep4 : floatBits .mul .f64 (absW hi) 4472406533629990549 = some p4
  eh3 : floatBits .add .f64 h2 p4 = some h3
  ege1 : (FloatKind.f64.format.order y l3 == some .gt) = true
  ege2 : (FloatKind.f64.format.order y l3 == some .eq) = false
  ele1 : (FloatKind.f64.format.order y h3 == some .lt) = true
  ele2 : (FloatKind.f64.format.order y h3 == some .eq) = false
theorem Fl.Rounds.e {X B : Rat} {r : Nat} (h : Rounds X B r) {e : Rat} (he : B + 1 ≤ 9007199254740992 * e) : q r - X ≤ e ∧ X - q r ≤ e := by
  have h1 := h.up
  have h2 := h.dn
  constructor <;> grind
theorem reck (lo hi y : Nat) (fl : fin lo) (fh : fin hi) (fy : fin y) (hlh : q lo ≤ q hi) (m1 : -M ≤ q lo) (m2 : q hi ≤ M)
    (hy : ∀ B : Rat, -B ≤ q lo → q hi ≤ B → B ≤ 2 * M → 9007199254740992 * (q lo - q y) ≤ 30 * B + 33 ∧ 9007199254740992 * (q y - q hi) ≤ 30 * B + 33) :
    ∃ d p1 s p2 rm l1 l2 p3 l3 h1 h2 p4 h3, Reck lo hi y d p1 s p2 rm l1 l2 p3 l3 h1 h2 p4 h3 := by
  have hM := M_one
  have ht := q_t
  have fc : fin 4472406533629990549 := fin_pos (by decide)
  have ft : fin 118622047889322841 := fin_pos (by decide)
  obtain ⟨fal, hK⟩ := abs_val fl
  obtain ⟨fah, hK2⟩ := abs_val fh
  have hB : ∃ B : Rat, B = q (absW lo) + q (absW hi) := ⟨_, rfl⟩
  obtain ⟨B, hB⟩ := hB
  have hB0 : 0 ≤ B := by rcases hK with ⟨a, b⟩ | ⟨a, b⟩ <;> rcases hK2 with ⟨c, d⟩ | ⟨c, d⟩ <;> grind
  have hB1 : -B ≤ q lo := by rcases hK with ⟨a, b⟩ | ⟨a, b⟩ <;> rcases hK2 with ⟨c, d⟩ | ⟨c, d⟩ <;> grind
  have hB2 : q hi ≤ B := by rcases hK with ⟨a, b⟩ | ⟨a, b⟩ <;> rcases hK2 with ⟨c, d⟩ | ⟨c, d⟩ <;> grind
  have hB3 : B ≤ 2 * M := by rcases hK with ⟨a, b⟩ | ⟨a, b⟩ <;> rcases hK2 with ⟨c, d⟩ | ⟨c, d⟩ <;> grind
  have hB4 : q (absW lo) ≤ B ∧ 0 ≤ q (absW lo) := by rcases hK with ⟨a, b⟩ | ⟨a, b⟩ <;> rcases hK2 with ⟨c, d⟩ | ⟨c, d⟩ <;> grind
  have hB5 : q (absW hi) ≤ B ∧ 0 ≤ q (absW hi) := by rcases hK with ⟨a, b⟩ | ⟨a, b⟩ <;> rcases hK2 with ⟨c, d⟩ | ⟨c, d⟩ <;> grind
  have hy2 := hy B hB1 hB2 hB3
  clear hy
  obtain ⟨G, hG⟩ : ∃ G : Rat, G = 10 * B + 10 := ⟨_, rfl⟩
  obtain ⟨e, he⟩ : ∃ e : Rat, 9007199254740992 * e = 10 * B + 11 := ⟨(10 * B + 11) * (1 / 9007199254740992), by grind⟩
  have heG : G + 1 ≤ 9007199254740992 * e := by grind
  have hGb : G ≤ big := by grind
  have he0 : 0 ≤ e := by grind
  have he1 : e ≤ B + 1 := by grind
  generalize htq : q 118622047889322841 = t3 at *
  obtain ⟨d, ed, rd⟩ := sub_rounds hi lo fh fl G (by grind) (by grind) hGb
  have d1 := rd.e heG
  obtain ⟨p1, ep1, rp1⟩ := mul_rounds d _ rd.fin fc G (by rw [q_c]; grind) (by rw [q_c]; grind) hGb
  have p11 := rp1.e heG
  rw [q_c] at p11
  obtain ⟨s, es, rs⟩ := add_rounds hi _ fh ft G (by rw [htq]; grind) (by rw [htq]; grind) hGb
  have s1 := rs.e heG
  rw [htq] at s1
  obtain ⟨p2, ep2, rp2⟩ := mul_rounds s _ rs.fin fc G (by rw [q_c]; grind) (by rw [q_c]; grind) hGb
  have p21 := rp2.e heG
  rw [q_c] at p21
  obtain ⟨rm, erm, rrm⟩ := add_rounds p1 p2 rp1.fin rp2.fin G (by grind) (by grind) hGb
  have rm1 := rrm.e heG
  obtain ⟨far, hr⟩ := abs_val rrm.fin
  have hr0 : 0 ≤ q (absW rm) := by rcases hr with ⟨a, b⟩ | ⟨a, b⟩ <;> grind
  have hr1 : q rm ≤ q (absW rm) := by rcases hr with ⟨a, b⟩ | ⟨a, b⟩ <;> grind
  have hr2 : q (absW rm) ≤ 3 * B + 4 := by rcases hr with ⟨a, b⟩ | ⟨a, b⟩ <;> grind
  obtain ⟨l1, el1, rl1⟩ := sub_rounds lo _ fl far G (by grind) (by grind) hGb
  have l11 := rl1.e heG
  obtain ⟨l2, el2, rl2⟩ := sub_rounds l1 _ rl1.fin fc G (by rw [q_c]; grind) (by rw [q_c]; grind) hGb
  have l21 := rl2.e heG
  rw [q_c] at l21
  obtain ⟨p3, ep3, rp3⟩ := mul_rounds (absW lo) _ fal fc G (by rw [q_c]; grind) (by rw [q_c]; grind) hGb
  have p31 := rp3.e heG
  rw [q_c] at p31
  obtain ⟨l3, el3, rl3⟩ := sub_rounds l2 p3 rl2.fin rp3.fin G (by grind) (by grind) hGb
  have l31 := rl3.e heG
  obtain ⟨h1, eh1, rh1⟩ := add_rounds hi _ fh far G (by grind) (by grind) hGb
  have h11 := rh1.e heG
  obtain ⟨h2, eh2, rh2⟩ := add_rounds h1 _ rh1.fin fc G (by rw [q_c]; grind) (by rw [q_c]; grind) hGb
  have h21 := rh2.e heG
  rw [q_c] at h21
  obtain ⟨p4, ep4, rp4⟩ := mul_rounds (absW hi) _ fah fc G (by rw [q_c]; grind) (by rw [q_c]; grind) hGb
  have p41 := rp4.e heG
  rw [q_c] at p41
  obtain ⟨h3, eh3, rh3⟩ := add_rounds h2 p4 rh2.fin rp4.fin G (by grind) (by grind) hGb
  have h31 := rh3.e heG
  have mm := margin (q lo) (q hi) (q d) (q p1) (q s) (q p2) (q rm) (q (absW rm)) e t3 B (q (absW lo)) (q (absW hi)) hlh hB he ht.1 hK hK2 d1.2 p11.2 s1.2 p21.2 rm1.2 hr1 hr0
  have lw := low_side (q lo) (q y) (q (absW rm)) (q l1) (q l2) (q p3) (q l3) e B (q (absW lo)) he hB0 (by have := hy2.1; grind) mm.1 l11.1 l21.1 p31.2 l31.1
  have hg := high_side (q hi) (q y) (q (absW rm)) (q h1) (q h2) (q p4) (q h3) e B (q (absW hi)) he hB0 (by have := hy2.2; grind) mm.2 h11.2 h21.2 p41.2 h31.2
  have k1 := (q_lt l3 y).1 lw
  have k2 := (q_lt y h3).1 hg
  have ny := fin_num fy
  have nl := fin_num rl3.fin
  have nh := fin_num rh3.fin
  refine ⟨d, p1, s, p2, rm, l1, l2, p3, l3, h1, h2, p4, h3, ed, ep1, es, ep2, erm, el1, el2, ep3, el3, eh1, eh2, ep4, eh3, ?_, ?_, ?_, ?_⟩
  · rw [o_gt y l3 ny nl]; exact decide_eq_true k1
  · rw [o_eq y l3 ny nl]; exact decide_eq_false (by omega)
  · rw [o_lt y h3 ny nh]; exact decide_eq_true k2
  · rw [o_eq y h3 ny nh]; exact decide_eq_false (by omega)
end Go.Proofs.Ythnjnpighnlodaa
