/-
  RateOrder is true for every three rates: the other way about the order is the opposite, it is the definition's, only rates that are the same are alike, and of three the first is not behind the last.
  Conditions: none.
-/
import Derived.Test.YtnmhmekomoameaaRf
namespace Go.Proofs.Ytnmhmekomoameaa.rateOrder
open Go.ChangeShapes Go.WideShapes Go.ChangeAt Go.RowKit

theorem cmp_neg (a b : Nat) : cmpT a b = - cmpT b a := by
  unfold cmpT
  split <;> split <;> (try split) <;> omega
theorem cmp_same (a b : Nat) (la : a < 18446744073709551616) (lb : b < 18446744073709551616) : (cmpT a b == 0) = sameB a b := by
  unfold sameB nanB
  have hz := cmpT_zero (a := a) (b := b)
  by_cases ha : Fl.nan a
  · by_cases hb : Fl.nan b
    · have h : cmpT a b = 0 := hz.2 (by rw [T_nan ha, T_nan hb])
      simp [ha, hb, h]
    · have h : ¬ cmpT a b = 0 := fun e => by have h1 := hz.1 e; have := T_lt hb; rw [T_nan ha] at h1; omega
      simp [ha, hb, h]
  · by_cases hb : Fl.nan b
    · have h : ¬ cmpT a b = 0 := fun e => by have h1 := hz.1 e; have := T_lt ha; rw [T_nan hb] at h1; omega
      simp [ha, hb, h]
    · by_cases hab : a = b
      · subst hab
        have h : cmpT a a = 0 := hz.2 rfl
        rw [h]
        simp [ha]
      · have h : ¬ cmpT a b = 0 := fun e => hab (T_inj ha hb la lb (hz.1 e))
        have e1 : (cmpT a b == 0) = false := beq_eq_false_iff_ne.2 h
        have e2 : (a == b) = false := beq_eq_false_iff_ne.2 hab
        rw [e1, e2]
        simp [ha, hb]
theorem cmp_trans (a b c : Nat) (h1 : ¬ cmpT a b > 0) (h2 : ¬ cmpT b c > 0) : cmpT a c ≤ 0 := by
  rw [cmpT_pos] at h1 h2
  have h3 : ¬ cmpT a c > 0 := by rw [cmpT_pos]; omega
  omega

set_option maxHeartbeats 1000000 in
theorem walk {w : World} (a : Nat) (la : a < 18446744073709551616) (b : Nat) (lb : b < 18446744073709551616) (c : Nat) (_ : c < 18446744073709551616) :
    Calls Try.prog 6 #[.float .f64 a, .float .f64 b, .float .f64 c] w fun e w' => e = .returned (.bool true) ∧ Below w.heap.size w w' := by
  have q1 := Lib.hid (compare_any a b)
  have q2 := Lib.hid (compare_any b a)
  have q3 := Lib.hid (fun w => refCompare_any a b w la lb)
  have q4 := Lib.hid (same_any a b)
  have q5 := Lib.hid (compare_any b c)
  have q6 := Lib.hid (compare_any a c)
  have hneg := cmp_neg a b
  have hsm := cmp_same a b la lb
  have htr := Lib.hid (cmp_trans a b c)
  have hone := cmpT_one a b
  have hone2 := cmpT_one b a
  rw [← hsm] at q4
  clear hsm
  generalize cmpT a b = x at *
  generalize cmpT b a = y at *
  generalize cmpT b c = u at *
  generalize cmpT a c = v at *
  obtain rfl : y = -x := by omega
  clear hone2 hneg
  have hw : ∀ w, Calls Try.prog 13 #[] w fun e w' => e = .returned (.bool true) ∧ Below w.heap.size w w' := fun w => lives_yes w
  have Hw := Lib.hid hw
  clear hw
  by_cases hx : x > 0
  · have hd : decide (x > 0) = true := decide_eq_true hx
    go_enter Try.func6, Try.ntmps6
    go_wp2_with (go_at_call 13; refine (Hw.out _).mono ?_; rintro e w1 ⟨rfl, hb1⟩)
    refine (q1.out _).mono ?_
    rintro e w' ⟨rfl, rfl⟩
    go_wp2_with fail
    refine (q2.out _).mono ?_
    rintro e w' ⟨rfl, rfl⟩
    go_wp2_with fail
    refine (q1.out _).mono ?_
    rintro e w' ⟨rfl, rfl⟩
    go_wp2_with fail
    refine (q3.out _).mono ?_
    rintro e w' ⟨rfl, rfl⟩
    go_wp2_with fail
    refine (q1.out _).mono ?_
    rintro e w' ⟨rfl, rfl⟩
    go_wp2_with fail
    refine (q4.out _).mono ?_
    rintro e w' ⟨rfl, rfl⟩
    go_wp2_with fail
    refine (q1.out _).mono ?_
    rintro e w' ⟨rfl, rfl⟩
    go_wp2_with fail
    go_ret
    exact ⟨rfl, hb1⟩
  · have hd : decide (x > 0) = false := decide_eq_false hx
    by_cases hu : u > 0
    · have hd2 : decide (u > 0) = true := decide_eq_true hu
      go_enter Try.func6, Try.ntmps6
      go_wp2_with (go_at_call 13; refine (Hw.out _).mono ?_; rintro e w1 ⟨rfl, hb1⟩)
      refine (q1.out _).mono ?_
      rintro e w' ⟨rfl, rfl⟩
      go_wp2_with fail
      refine (q2.out _).mono ?_
      rintro e w' ⟨rfl, rfl⟩
      go_wp2_with fail
      refine (q1.out _).mono ?_
      rintro e w' ⟨rfl, rfl⟩
      go_wp2_with fail
      refine (q3.out _).mono ?_
      rintro e w' ⟨rfl, rfl⟩
      go_wp2_with fail
      refine (q1.out _).mono ?_
      rintro e w' ⟨rfl, rfl⟩
      go_wp2_with fail
      refine (q4.out _).mono ?_
      rintro e w' ⟨rfl, rfl⟩
      go_wp2_with fail
      refine (q1.out _).mono ?_
      rintro e w' ⟨rfl, rfl⟩
      go_wp2_with fail
      refine (q5.out _).mono ?_
      rintro e w' ⟨rfl, rfl⟩
      go_wp2_with fail
      go_ret
      exact ⟨rfl, hb1⟩
    · have hd2 : decide (u > 0) = false := decide_eq_false hu
      have hd3 : decide (v ≤ 0) = true := decide_eq_true (htr.out hx hu)
      go_enter Try.func6, Try.ntmps6
      go_wp2_with (go_at_call 13; refine (Hw.out _).mono ?_; rintro e w1 ⟨rfl, hb1⟩)
      refine (q1.out _).mono ?_
      rintro e w' ⟨rfl, rfl⟩
      go_wp2_with fail
      refine (q2.out _).mono ?_
      rintro e w' ⟨rfl, rfl⟩
      go_wp2_with fail
      refine (q1.out _).mono ?_
      rintro e w' ⟨rfl, rfl⟩
      go_wp2_with fail
      refine (q3.out _).mono ?_
      rintro e w' ⟨rfl, rfl⟩
      go_wp2_with fail
      refine (q1.out _).mono ?_
      rintro e w' ⟨rfl, rfl⟩
      go_wp2_with fail
      refine (q4.out _).mono ?_
      rintro e w' ⟨rfl, rfl⟩
      go_wp2_with fail
      refine (q1.out _).mono ?_
      rintro e w' ⟨rfl, rfl⟩
      go_wp2_with fail
      refine (q5.out _).mono ?_
      rintro e w' ⟨rfl, rfl⟩
      go_wp2_with fail
      refine (q6.out _).mono ?_
      rintro e w' ⟨rfl, rfl⟩
      go_wp2_with fail
      go_ret
      exact ⟨rfl, hb1⟩

set_option maxRecDepth 100000 in
/-- WHAT THE WALK GIVES, FOR EVERY ARGUMENT AND EVERY WORLD THAT HOLDS THE TABLES. -/
theorem contract (H : Type) (enc : TypeId × Value → H) (W : World) (base : Nat) (args : Array Value) (ds gs : List (DataW H)) (before : List MemPlace)
    (hval : ∀ (j : Nat) t v, Try.f6.params[j]? = some t → args[j]? = some v → Value.okWide Try.prog W .any base t v)
    (hW : DataW.Whole enc Try.prog Try.f6.params.toList Rows.rateOrderSpec.vars false W args.toList ds gs before)
    (hsz : (DataW.weightsEach Try.prog (Try.f6.params.toList ++ (OpenSpec.ofChange Rows.rateOrderSpec).bare.plain.varTypes Try.prog) (ds ++ gs)).all (· ≤ reachBytes) = true) (_hL : laidMetH Try.prog laidBoth W) :
    Calls Try.prog 6 args W fun e W' => ∃ v, e = .returned v ∧ Rows.rateOrderSpec.post enc Try.prog Try.f6 false true false false W args v W' := by
  have hW' := hW
  obtain ⟨p, q, hA0, hV, rfl, hfz, hnd⟩ := hW
  have hA : DataW.TrodAll enc Try.prog W 0 (fun _ => true) true Try.f6.params.toList args.toList ds p := hA0
  have hsz2 : (DataW.weightsEach Try.prog (Try.f6.params.toList ++ []) (ds ++ gs)).all (· ≤ reachBytes) = true := hsz
  rw [Try.params6] at hA hval hsz2
  obtain ⟨v0, vs0, d0, ds0, p0, q0, hargs, rfl, rfl, h0, r0⟩ := trodAll_cons hA
  obtain ⟨v1, vs1, d1, ds1, p1, q1, rfl, rfl, rfl, h1, r1⟩ := trodAll_cons r0
  obtain ⟨v2, vs2, d2, ds2, p2, q2, rfl, rfl, rfl, h2, r2⟩ := trodAll_cons r1
  obtain ⟨rfl, rfl, rfl⟩ := trodAll_nil r2
  obtain rfl : args = #[v0, v1, v2] := by cases args; simp_all
  obtain ⟨rfl, rfl⟩ := trodVars_none hV
  obtain ⟨a0, rfl, rfl, rfl, w0⟩ := open_float Try.underlying23 (hval 0 23 v0 rfl rfl) h0
  obtain ⟨a1, rfl, rfl, rfl, w1⟩ := open_float Try.underlying23 (hval 1 23 v1 rfl rfl) h1
  obtain ⟨a2, rfl, rfl, rfl, w2⟩ := open_float Try.underlying23 (hval 2 23 v2 rfl rfl) h2
  refine (walk a0 (wf_lt w0) a1 (wf_lt w1) a2 (wf_lt w2)).mono fun e W' ⟨he, bel⟩ => ?_
  subst he
  exact ⟨_, rfl, _, _, _, [], _, [], hW', trodAll_mk1 (shut_bool Try.underlying4 _), (trodAll_cons_mk (shut_float Try.underlying23 w0) (trodAll_cons_mk (shut_float Try.underlying23 w1) (trodAll_cons_mk (shut_float Try.underlying23 w2) trodAll_mk0))), rfl, bel.frame _, fun h => by cases h⟩

theorem laid_met (os : Os) : laidMetH Try.prog laidBoth ((laidWorld os).forCall (fun _ _ => 0) ⟨#[], #[.float .f64 0, .float .f64 0, .float .f64 0], []⟩).memory :=
  laidMetH_of_parts3 (fuel := 8) (laidMet_of_run' 8 (by kernel_rfl) (by kernel_rfl)) (by kernel_rfl) (by kernel_rfl)
theorem reads (os : Os) {H : Type} (enc : TypeId × Value → H) : ∃ places, DataW.whole enc Try.prog ((laidWorld os).forCall (fun _ _ => 0) ⟨#[], #[.float .f64 0, .float .f64 0, .float .f64 0], []⟩).memory Try.f6.params.toList Rows.rateOrderSpec.vars false (#[.float .f64 0, .float .f64 0, .float .f64 0] : Array Value).toList 8 = some ([.lit (.float .f64 0), .lit (.float .f64 0), .lit (.float .f64 0)], [], places) :=
  ⟨[], by kernel_rfl⟩
set_option maxRecDepth 100000 in
theorem lifted (os : Os) (started : os.Started) (H : Type) (enc : TypeId × Value → H) (F : Stop.Interp) :
    ReturnsInHanded {} Try.checked os 6 .any ((OpenSpec.ofChange Rows.rateOrderSpec).preRow enc Try.prog Try.f6 Rows.rateOrderRow.domain false Rows.rateOrderRow.laid) (((OpenSpec.ofChange Rows.rateOrderSpec).at F).post enc Try.prog Try.f6 false true false false) := by
  obtain ⟨places, hx⟩ := reads os enc
  refine returnsInHanded_of_row (C := Try.checked) (s := (OpenSpec.ofChange Rows.rateOrderSpec)) own started (by kernel_rfl) Try.func6
    (witness_row_at (enc := enc) (C := Try.checked) false (laidWorld os) #[.float .f64 0, .float .f64 0, .float .f64 0] rfl (by kernel_rfl) (by kernel_rfl) (by kernel_rfl)
      (OpenSpec.preRow_of_cond 8 hx (by kernel_rfl) (fun k hk => by cases hk) (by kernel_rfl) (laid_met os))) ?_
  intro W base args ds gs before hval hW _ hcond hsz hL _ _
  exact contract H enc W base args ds gs before hval hW hsz hL
theorem said : Rows.RateOrderSaid :=
  OpenClaim.holds_of_cond 6 Try.f6 rfl rfl rfl rfl rfl rfl rfl ⟨rfl, rfl, rfl, rfl, rfl⟩ rfl rfl rfl rfl rfl (by kernel_rfl) Try.func6 (by kernel_rfl)
    (of_decide_eq_true (by kernel_rfl)) (by unfold Func.isWrapper; first | (rw [if_pos (by decide +kernel)]; kernel_rfl) | (rw [if_neg (by decide +kernel)]; exact ⟨rfl, rfl⟩))
    (fun os started H enc _ F => by rw [OpenClaim.pre_eq_preRow]; exact lifted os started H enc F)
end Go.Proofs.Ytnmhmekomoameaa.rateOrder
