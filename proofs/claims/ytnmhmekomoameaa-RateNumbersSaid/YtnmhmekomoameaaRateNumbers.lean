/-
  RateNumbers is true for every two rates: of numbers that are unlike the order is their own, and what is no number is the greatest.
  Conditions: none.
-/
import Derived.Test.YtnmhmekomoameaaRf
namespace Go.Proofs.Ytnmhmekomoameaa.rateNumbers
open Go.ChangeShapes Go.WideShapes Go.ChangeAt Go.RowKit

theorem eq_self (a : Nat) : (FloatKind.f64.format.order a a == some .eq) = !nanB a := by
  rw [← o_neq_self a]; simp [bne]
set_option maxHeartbeats 1000000 in
theorem walk {w : World} (a : Nat) (_ : a < 18446744073709551616) (b : Nat) (_ : b < 18446744073709551616) :
    Calls Try.prog 7 #[.float .f64 a, .float .f64 b] w fun e w' => e = .returned (.bool true) ∧ Below w.heap.size w w' := by
  have q := Lib.hid (compare_any a b)
  have na := o_neq_self a
  have nb := o_neq_self b
  have ea := eq_self a
  have eb := eq_self b
  have hv := Lib.hid (lives_yes w)
  by_cases ha : Fl.nan a
  · rw [show nanB a = true from decide_eq_true ha] at na ea
    by_cases hb : Fl.nan b
    · rw [show nanB b = true from decide_eq_true hb] at nb eb
      rw [cmpT_eq (by rw [T_nan ha, T_nan hb])] at q
      go_enter Try.func7, Try.ntmps7
      go_wp2_with (first
        | (go_at_call 13; refine hv.out.mono ?_; rintro e w1 ⟨rfl, hb1⟩)
        | (go_at_call 20; refine (q.out _).mono ?_; rintro e w' ⟨rfl, rfl⟩))
      go_ret
      exact ⟨rfl, hb1⟩
    · rw [show nanB b = false from decide_eq_false hb] at nb eb
      rw [cmpT_gt (by rw [T_nan ha]; exact (T_lt hb).1)] at q
      go_enter Try.func7, Try.ntmps7
      go_wp2_with (first
        | (go_at_call 13; refine hv.out.mono ?_; rintro e w1 ⟨rfl, hb1⟩)
        | (go_at_call 20; refine (q.out _).mono ?_; rintro e w' ⟨rfl, rfl⟩))
      go_ret
      exact ⟨rfl, hb1⟩
  · rw [show nanB a = false from decide_eq_false ha] at na ea
    by_cases hb : Fl.nan b
    · rw [show nanB b = true from decide_eq_true hb] at nb eb
      rw [cmpT_lt (by rw [T_nan hb]; exact (T_lt ha).1)] at q
      go_enter Try.func7, Try.ntmps7
      go_wp2_with (first
        | (go_at_call 13; refine hv.out.mono ?_; rintro e w1 ⟨rfl, hb1⟩)
        | (go_at_call 20; refine (q.out _).mono ?_; rintro e w' ⟨rfl, rfl⟩))
      go_ret
      exact ⟨rfl, hb1⟩
    · rw [show nanB b = false from decide_eq_false hb] at nb eb
      have hlt := o_lt a b ha hb
      have hgt := o_gt a b ha hb
      by_cases c1 : Fl.key a < Fl.key b
      · rw [decide_eq_true c1] at hlt
        rw [cmpT_lt (T_of_key ha hb c1)] at q
        clear hgt c1
        go_enter Try.func7, Try.ntmps7
        go_wp2_with (first
          | (go_at_call 13; refine hv.out.mono ?_; rintro e w1 ⟨rfl, hb1⟩)
          | (go_at_call 20; refine (q.out _).mono ?_; rintro e w' ⟨rfl, rfl⟩))
        go_ret
        exact ⟨rfl, hb1⟩
      · rw [decide_eq_false c1] at hlt
        by_cases c2 : Fl.key b < Fl.key a
        · rw [decide_eq_true c2] at hgt
          rw [cmpT_gt (T_of_key hb ha c2)] at q
          clear c1 c2
          go_enter Try.func7, Try.ntmps7
          go_wp2_with (first
            | (go_at_call 13; refine hv.out.mono ?_; rintro e w1 ⟨rfl, hb1⟩)
            | (go_at_call 20; refine (q.out _).mono ?_; rintro e w' ⟨rfl, rfl⟩))
          go_ret
          exact ⟨rfl, hb1⟩
        · rw [decide_eq_false c2] at hgt
          clear c1 c2
          go_enter Try.func7, Try.ntmps7
          go_wp2_with (first
            | (go_at_call 13; refine hv.out.mono ?_; rintro e w1 ⟨rfl, hb1⟩))
          go_ret
          exact ⟨rfl, hb1⟩

set_option maxRecDepth 100000 in
/-- WHAT THE WALK GIVES, FOR EVERY ARGUMENT AND EVERY WORLD THAT HOLDS THE TABLES. -/
theorem contract (H : Type) (enc : TypeId × Value → H) (W : World) (base : Nat) (args : Array Value) (ds gs : List (DataW H)) (before : List MemPlace)
    (hval : ∀ (j : Nat) t v, Try.f7.params[j]? = some t → args[j]? = some v → Value.okWide Try.prog W .any base t v)
    (hW : DataW.Whole enc Try.prog Try.f7.params.toList Rows.rateNumbersSpec.vars false W args.toList ds gs before)
    (hsz : (DataW.weightsEach Try.prog (Try.f7.params.toList ++ (OpenSpec.ofChange Rows.rateNumbersSpec).bare.plain.varTypes Try.prog) (ds ++ gs)).all (· ≤ reachBytes) = true) (_hL : laidMetH Try.prog laidBoth W) :
    Calls Try.prog 7 args W fun e W' => ∃ v, e = .returned v ∧ Rows.rateNumbersSpec.post enc Try.prog Try.f7 false true false false W args v W' := by
  have hW' := hW
  obtain ⟨p, q, hA0, hV, rfl, hfz, hnd⟩ := hW
  have hA : DataW.TrodAll enc Try.prog W 0 (fun _ => true) true Try.f7.params.toList args.toList ds p := hA0
  have hsz2 : (DataW.weightsEach Try.prog (Try.f7.params.toList ++ []) (ds ++ gs)).all (· ≤ reachBytes) = true := hsz
  rw [Try.params7] at hA hval hsz2
  obtain ⟨v0, vs0, d0, ds0, p0, q0, hargs, rfl, rfl, h0, r0⟩ := trodAll_cons hA
  obtain ⟨v1, vs1, d1, ds1, p1, q1, rfl, rfl, rfl, h1, r1⟩ := trodAll_cons r0
  obtain ⟨rfl, rfl, rfl⟩ := trodAll_nil r1
  obtain rfl : args = #[v0, v1] := by cases args; simp_all
  obtain ⟨rfl, rfl⟩ := trodVars_none hV
  obtain ⟨a0, rfl, rfl, rfl, w0⟩ := open_float Try.underlying23 (hval 0 23 v0 rfl rfl) h0
  obtain ⟨a1, rfl, rfl, rfl, w1⟩ := open_float Try.underlying23 (hval 1 23 v1 rfl rfl) h1
  refine (walk a0 (wf_lt w0) a1 (wf_lt w1)).mono fun e W' ⟨he, bel⟩ => ?_
  subst he
  exact ⟨_, rfl, _, _, _, [], _, [], hW', trodAll_mk1 (shut_bool Try.underlying4 _), (trodAll_cons_mk (shut_float Try.underlying23 w0) (trodAll_cons_mk (shut_float Try.underlying23 w1) trodAll_mk0)), rfl, bel.frame _, fun h => by cases h⟩

theorem laid_met (os : Os) : laidMetH Try.prog laidBoth ((laidWorld os).forCall (fun _ _ => 0) ⟨#[], #[.float .f64 0, .float .f64 0], []⟩).memory :=
  laidMetH_of_parts3 (fuel := 8) (laidMet_of_run' 8 (by kernel_rfl) (by kernel_rfl)) (by kernel_rfl) (by kernel_rfl)
theorem reads (os : Os) {H : Type} (enc : TypeId × Value → H) : ∃ places, DataW.whole enc Try.prog ((laidWorld os).forCall (fun _ _ => 0) ⟨#[], #[.float .f64 0, .float .f64 0], []⟩).memory Try.f7.params.toList Rows.rateNumbersSpec.vars false (#[.float .f64 0, .float .f64 0] : Array Value).toList 8 = some ([.lit (.float .f64 0), .lit (.float .f64 0)], [], places) :=
  ⟨[], by kernel_rfl⟩
set_option maxRecDepth 100000 in
theorem lifted (os : Os) (started : os.Started) (H : Type) (enc : TypeId × Value → H) (F : Stop.Interp) :
    ReturnsInHanded {} Try.checked os 7 .any ((OpenSpec.ofChange Rows.rateNumbersSpec).preRow enc Try.prog Try.f7 Rows.rateNumbersRow.domain false Rows.rateNumbersRow.laid) (((OpenSpec.ofChange Rows.rateNumbersSpec).at F).post enc Try.prog Try.f7 false true false false) := by
  obtain ⟨places, hx⟩ := reads os enc
  refine returnsInHanded_of_row (C := Try.checked) (s := (OpenSpec.ofChange Rows.rateNumbersSpec)) own started (by kernel_rfl) Try.func7
    (witness_row_at (enc := enc) (C := Try.checked) false (laidWorld os) #[.float .f64 0, .float .f64 0] rfl (by kernel_rfl) (by kernel_rfl) (by kernel_rfl)
      (OpenSpec.preRow_of_cond 8 hx (by kernel_rfl) (fun k hk => by cases hk) (by kernel_rfl) (laid_met os))) ?_
  intro W base args ds gs before hval hW _ hcond hsz hL _ _
  exact contract H enc W base args ds gs before hval hW hsz hL
theorem said : Rows.RateNumbersSaid :=
  OpenClaim.holds_of_cond 7 Try.f7 rfl rfl rfl rfl rfl rfl rfl ⟨rfl, rfl, rfl, rfl, rfl⟩ rfl rfl rfl rfl rfl (by kernel_rfl) Try.func7 (by kernel_rfl)
    (of_decide_eq_true (by kernel_rfl)) (by unfold Func.isWrapper; first | (rw [if_pos (by decide +kernel)]; kernel_rfl) | (rw [if_neg (by decide +kernel)]; exact ⟨rfl, rfl⟩))
    (fun os started H enc _ F => by rw [OpenClaim.pre_eq_preRow]; exact lifted os started H enc F)
end Go.Proofs.Ytnmhmekomoameaa.rateNumbers
