/-
  RateSteps is true for every rate and every most: the steps that a rate lets are no more than it says, none fewer, and none above the most.
  Conditions: none.
-/
import Derived.Test.YthnjnpighnlodaaRf
import Derived.Test.YthnjnpighnlodaaFn
namespace Go.Proofs.Ythnjnpighnlodaa.rateSteps
open Go.ChangeShapes Go.WideShapes Go.ChangeAt Go.RowKit

theorem tri (a b : Nat) (ha : ¬ Fl.nan a) (hb : ¬ Fl.nan b) :
    ((FloatKind.f64.format.order a b == some .lt) = true ∧ (FloatKind.f64.format.order a b == some .eq) = false ∧ (FloatKind.f64.format.order a b == some .gt) = false) ∨
    ((FloatKind.f64.format.order a b == some .lt) = false ∧ (FloatKind.f64.format.order a b == some .eq) = true ∧ (FloatKind.f64.format.order a b == some .gt) = false) ∨
    ((FloatKind.f64.format.order a b == some .lt) = false ∧ (FloatKind.f64.format.order a b == some .eq) = false ∧ (FloatKind.f64.format.order a b == some .gt) = true) := by
  rw [o_gt a b ha hb, o_eq a b ha hb, o_lt a b ha hb]
  generalize Fl.key a = j
  generalize Fl.key b = k
  simp only [decide_eq_true_eq, decide_eq_false_iff_not]
  omega
theorem most_num (m : Int) (h : 0 < m) : ¬ Fl.nan (floatOfInt .f64 m) := by
  obtain ⟨M, rfl⟩ : ∃ M : Nat, m = M := ⟨m.toNat, by omega⟩
  obtain ⟨kk, e, _⟩ := Fl.ofNat_is M (by omega)
  rw [floatOfNat, e]
  exact (Fl.rung_small (by omega)).2.2
theorem steps_is (x : Nat) (m k : Int) (w : World) (v : Int) (he : stepsC x m k = v) (hk : 0 < m → (FloatKind.f64.format.order x 0 == some .gt) = true → (FloatKind.f64.format.order x (floatOfInt .f64 m) == some .gt) = false → (FloatKind.f64.format.order x (floatOfInt .f64 m) == some .eq) = false → floatToIntVal .f64 (floorW x) .i64 = some k) :
    Calls Try.prog 24 #[.float .f64 x, .int .i64 m] w fun e w' => e = .returned (.int .i64 v) ∧ w = w' := he ▸ steps_ok x m k w hk
set_option maxHeartbeats 1000000 in
theorem walk {w : World} (x : Nat) (_ : x < 18446744073709551616) (m : Int) (_ : -9223372036854775808 ≤ m) (hm2 : m ≤ 9223372036854775807) :
    Calls Try.prog 9 #[.float .f64 x, .int .i64 m] w fun e w' => e = .returned (.bool true) ∧ Below w.heap.size w w' := by
  have hv := Lib.hid (lives_yes w)
  have nx := o_neq_self x
  have hadd : ∀ ty x y w, (binOp .add ty (.float .f64 x) (.float .f64 y)).run Try.prog w = .ok (.float .f64 (rr .add x y w)) (ww .add x y w) := fun t x y w => run_arith .add t x y w (by decide)
  by_cases hm : m ≤ 0
  · have hs := Lib.hid (fun w => steps_is x m 0 w 0 (if_pos hm) (fun h => absurd hm (by omega)))
    clear nx hadd
    go_enter Try.func9, Try.ntmps9
    go_wp2_with (first
      | (go_at_call 24; refine (hs.out _).mono ?_; rintro e w' ⟨rfl, rfl⟩)
      | (go_at_call 13; refine hv.out.mono ?_; rintro e w1 ⟨rfl, hb1⟩))
    go_ret
    exact ⟨rfl, hb1⟩
  · have hm1 : 0 < m := by omega
    by_cases hx : Fl.nan x
    · have e0 : FloatKind.f64.format.order x 0 = none := Fl.order_nan_left x 0 hx
      have hs := Lib.hid (fun w => steps_is x m 0 w 0 (by unfold stepsC; rw [if_neg hm, e0]; rfl) (fun _ h => by rw [e0] at h; cases h))
      rw [show nanB x = true from decide_eq_true hx] at nx
      clear hadd e0 hx
      go_enter Try.func9, Try.ntmps9
      go_wp2_with (first
        | (go_at_call 24; refine (hs.out _).mono ?_; rintro e w' ⟨rfl, rfl⟩)
        | (go_at_call 13; refine hv.out.mono ?_; rintro e w1 ⟨rfl, hb1⟩))
      go_ret
      exact ⟨rfl, hb1⟩
    · rw [show nanB x = false from decide_eq_false hx] at nx
      rcases tri x 0 hx (by decide) with ⟨c1, c2, c3⟩ | ⟨c1, c2, c3⟩ | ⟨c1, c2, c3⟩
      · have hs := Lib.hid (fun w => steps_is x m 0 w 0 (by unfold stepsC; rw [if_neg hm, c3]; rfl) (fun _ h => by rw [c3] at h; cases h))
        clear hadd hx
        go_enter Try.func9, Try.ntmps9
        go_wp2_with (first
          | (go_at_call 24; refine (hs.out _).mono ?_; rintro e w' ⟨rfl, rfl⟩)
          | (go_at_call 13; refine hv.out.mono ?_; rintro e w1 ⟨rfl, hb1⟩))
        go_ret
        exact ⟨rfl, hb1⟩
      · have hs := Lib.hid (fun w => steps_is x m 0 w 0 (by unfold stepsC; rw [if_neg hm, c3]; rfl) (fun _ h => by rw [c3] at h; cases h))
        clear hadd hx
        go_enter Try.func9, Try.ntmps9
        go_wp2_with (first
          | (go_at_call 24; refine (hs.out _).mono ?_; rintro e w' ⟨rfl, rfl⟩)
          | (go_at_call 13; refine hv.out.mono ?_; rintro e w1 ⟨rfl, hb1⟩))
        go_ret
        exact ⟨rfl, hb1⟩
      · rcases tri x (floatOfInt .f64 m) hx (most_num m hm1) with ⟨d1, d2, d3⟩ | ⟨d1, d2, d3⟩ | ⟨d1, d2, d3⟩
        · obtain ⟨K, hK⟩ := floored x m hm1 hm2 c3 d1
          have hs := Lib.hid (fun w => steps_is x m K w K (by unfold stepsC; rw [if_neg hm, c3, d3, d2]; rfl) (fun _ _ _ _ => hK.conv))
          have k1 := hK.le
          have k2 := hK.fl
          rcases Nat.lt_or_ge K 4503599627370496 with h52 | h52
          · obtain ⟨r, k3, k4, k5⟩ := hK.up h52
            have hadd2 : ∀ ty w, (binOp .add ty (.float .f64 (floatOfInt .f64 (K : Int))) (.float .f64 4607182418800017408)).run Try.prog w = .ok (.float .f64 r) w := fun t w => run_float_arith w .add t .f64 _ _ r k3
            clear hadd hx hK k3
            go_enter Try.func9, Try.ntmps9
            go_wp2_with (first
              | (go_at_call 24; refine (hs.out _).mono ?_; rintro e w' ⟨rfl, rfl⟩)
              | (go_at_call 13; refine hv.out.mono ?_; rintro e w1 ⟨rfl, hb1⟩)
              | rw [hadd2])
            go_ret
            exact ⟨rfl, hb1⟩
          · clear hx hK
            go_enter Try.func9, Try.ntmps9
            go_wp2_with (first
              | (go_at_call 24; refine (hs.out _).mono ?_; rintro e w' ⟨rfl, rfl⟩)
              | (go_at_call 13; refine hv.out.mono ?_; rintro e w1 ⟨rfl, hb1⟩)
              | rw [hadd])
            all_goals go_ret
            all_goals exact ⟨rfl, ww_below _ _ _ hb1⟩
        · have hs := Lib.hid (fun w => steps_is x m 0 w m (by unfold stepsC; rw [if_neg hm, c3, d2]; simp) (fun _ _ _ h => by rw [d2] at h; cases h))
          clear hadd hx
          go_enter Try.func9, Try.ntmps9
          go_wp2_with (first
            | (go_at_call 24; refine (hs.out _).mono ?_; rintro e w' ⟨rfl, rfl⟩)
            | (go_at_call 13; refine hv.out.mono ?_; rintro e w1 ⟨rfl, hb1⟩))
          go_ret
          exact ⟨rfl, hb1⟩
        · have hs := Lib.hid (fun w => steps_is x m 0 w m (by unfold stepsC; rw [if_neg hm, c3, d3]; rfl) (fun _ _ h => by rw [d3] at h; cases h))
          clear hadd hx
          go_enter Try.func9, Try.ntmps9
          go_wp2_with (first
            | (go_at_call 24; refine (hs.out _).mono ?_; rintro e w' ⟨rfl, rfl⟩)
            | (go_at_call 13; refine hv.out.mono ?_; rintro e w1 ⟨rfl, hb1⟩))
          go_ret
          exact ⟨rfl, hb1⟩

set_option maxRecDepth 100000 in
/-- WHAT THE WALK GIVES, FOR EVERY ARGUMENT AND EVERY WORLD THAT HOLDS THE TABLES. -/
theorem contract (H : Type) (enc : TypeId × Value → H) (W : World) (base : Nat) (args : Array Value) (ds gs : List (DataW H)) (before : List MemPlace)
    (hval : ∀ (j : Nat) t v, Try.f9.params[j]? = some t → args[j]? = some v → Value.okWide Try.prog W .any base t v)
    (hW : DataW.Whole enc Try.prog Try.f9.params.toList Rows.rateStepsSpec.vars false W args.toList ds gs before)
    (hsz : (DataW.weightsEach Try.prog (Try.f9.params.toList ++ (OpenSpec.ofChange Rows.rateStepsSpec).bare.plain.varTypes Try.prog) (ds ++ gs)).all (· ≤ reachBytes) = true) (_hL : laidMetH Try.prog laidBoth W) :
    Calls Try.prog 9 args W fun e W' => ∃ v, e = .returned v ∧ Rows.rateStepsSpec.post enc Try.prog Try.f9 false true false false W args v W' := by
  have hW' := hW
  obtain ⟨p, q, hA0, hV, rfl, hfz, hnd⟩ := hW
  have hA : DataW.TrodAll enc Try.prog W 0 (fun _ => true) true Try.f9.params.toList args.toList ds p := hA0
  have hsz2 : (DataW.weightsEach Try.prog (Try.f9.params.toList ++ []) (ds ++ gs)).all (· ≤ reachBytes) = true := hsz
  rw [Try.params9] at hA hval hsz2
  obtain ⟨v0, vs0, d0, ds0, p0, q0, hargs, rfl, rfl, h0, r0⟩ := trodAll_cons hA
  obtain ⟨v1, vs1, d1, ds1, p1, q1, rfl, rfl, rfl, h1, r1⟩ := trodAll_cons r0
  obtain ⟨rfl, rfl, rfl⟩ := trodAll_nil r1
  obtain rfl : args = #[v0, v1] := by cases args; simp_all
  obtain ⟨rfl, rfl⟩ := trodVars_none hV
  obtain ⟨a0, rfl, rfl, rfl, w0⟩ := open_float Try.underlying23 (hval 0 23 v0 rfl rfl) h0
  obtain ⟨a1, rfl, rfl, rfl, w1⟩ := open_int Try.underlying3 (hval 1 3 v1 rfl rfl) h1
  have bd1 := bounds_i64 w1
  refine (walk a0 (wf_lt w0) a1 bd1.1 bd1.2).mono fun e W' ⟨he, bel⟩ => ?_
  subst he
  exact ⟨_, rfl, _, _, _, [], _, [], hW', trodAll_mk1 (shut_bool Try.underlying4 _), (trodAll_cons_mk (shut_float Try.underlying23 w0) (trodAll_cons_mk (shut_int Try.underlying3 w1) trodAll_mk0)), rfl, bel.frame _, fun h => by cases h⟩

theorem laid_met (os : Os) : laidMetH Try.prog laidBoth ((laidWorld os).forCall (fun _ _ => 0) ⟨#[], #[.float .f64 0, .int .i64 0], []⟩).memory :=
  laidMetH_of_parts3 (fuel := 8) (laidMet_of_run' 8 (by kernel_rfl) (by kernel_rfl)) (by kernel_rfl) (by kernel_rfl)
theorem reads (os : Os) {H : Type} (enc : TypeId × Value → H) : ∃ places, DataW.whole enc Try.prog ((laidWorld os).forCall (fun _ _ => 0) ⟨#[], #[.float .f64 0, .int .i64 0], []⟩).memory Try.f9.params.toList Rows.rateStepsSpec.vars false (#[.float .f64 0, .int .i64 0] : Array Value).toList 8 = some ([.lit (.float .f64 0), .lit (.int .i64 0)], [], places) :=
  ⟨[], by kernel_rfl⟩
set_option maxRecDepth 100000 in
theorem lifted (os : Os) (started : os.Started) (H : Type) (enc : TypeId × Value → H) (F : Stop.Interp) :
    ReturnsInHanded {} Try.checked os 9 .any ((OpenSpec.ofChange Rows.rateStepsSpec).preRow enc Try.prog Try.f9 Rows.rateStepsRow.domain false Rows.rateStepsRow.laid) (((OpenSpec.ofChange Rows.rateStepsSpec).at F).post enc Try.prog Try.f9 false true false false) := by
  obtain ⟨places, hx⟩ := reads os enc
  refine returnsInHanded_of_row (C := Try.checked) (s := (OpenSpec.ofChange Rows.rateStepsSpec)) own started (by kernel_rfl) Try.func9
    (witness_row_at (enc := enc) (C := Try.checked) false (laidWorld os) #[.float .f64 0, .int .i64 0] rfl (by kernel_rfl) (by kernel_rfl) (by kernel_rfl)
      (OpenSpec.preRow_of_cond 8 hx (by kernel_rfl) (fun k hk => by cases hk) (by kernel_rfl) (laid_met os))) ?_
  intro W base args ds gs before hval hW _ hcond hsz hL _ _
  exact contract H enc W base args ds gs before hval hW hsz hL
theorem said : Rows.RateStepsSaid :=
  OpenClaim.holds_of_cond 9 Try.f9 rfl rfl rfl rfl rfl rfl rfl ⟨rfl, rfl, rfl, rfl, rfl⟩ rfl rfl rfl rfl rfl (by kernel_rfl) Try.func9 (by kernel_rfl)
    (of_decide_eq_true (by kernel_rfl)) (by unfold Func.isWrapper; first | (rw [if_pos (by decide +kernel)]; kernel_rfl) | (rw [if_neg (by decide +kernel)]; exact ⟨rfl, rfl⟩))
    (fun os started H enc _ F => by rw [OpenClaim.pre_eq_preRow]; exact lifted os started H enc F)
end Go.Proofs.Ythnjnpighnlodaa.rateSteps
