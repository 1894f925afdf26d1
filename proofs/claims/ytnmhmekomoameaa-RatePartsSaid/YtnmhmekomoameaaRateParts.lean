/-
  RateParts is true for every share and every slice of numbers: the share is the quotient, and what numbers come to is the definition's, to the bit, or both are no number; of none a share is no number, or beyond 1.
  Conditions: none.
-/
import Derived.Test.YtnmhmekomoameaaRf
import Derived.Test.YtnmhmekomoameaaAa
namespace Go.Proofs.Ytnmhmekomoameaa.rateParts
open Go.ChangeShapes Go.WideShapes Go.ChangeAt Go.RowKit

theorem info_float : (Try.prog.info? 23).map (fun i => (i.zero, i.size, i.bytes)) = some (some (.float .f64 0), 1, 8) := by kernel_rfl
theorem fls_one (l : List Nat) : ∀ u ∈ fls l, u.oneCell' = true := by
  intro u hu
  simp only [fls, List.mem_map] at hu
  obtain ⟨x, _, rfl⟩ := hu
  rfl
theorem quo_zero (x : Nat) : floatBits .quo .f64 x 0 = none ∨ floatBits .quo .f64 x 0 = some 9218868437227405312 ∨ floatBits .quo .f64 x 0 = some 18442240474082181120 := by
  show Ieee.double.div x 0 = none ∨ Ieee.double.div x 0 = some 9218868437227405312 ∨ Ieee.double.div x 0 = some 18442240474082181120
  have h0 : Ieee.double.read 0 = .number false 0 (-1074) := by decide
  unfold Ieee.Format.div
  rw [h0]
  have hw : ∀ s : Bool, Ieee.double.write (.infinity s) = 9218868437227405312 ∨ Ieee.double.write (.infinity s) = 18442240474082181120 := by decide
  cases Ieee.double.read x with
  | nan s t => exact .inl rfl
  | infinity s =>
    have := hw (s ^^ false)
    simp only [Ieee.Datum.quotient, Option.map_some, Option.some.injEq]
    exact .inr this
  | number s m i =>
    by_cases hm : m = 0
    · simp [Ieee.Datum.quotient, hm]
    · have := hw (s ^^ false)
      simp only [Ieee.Datum.quotient, if_pos, if_neg hm, Option.map_some, Option.some.injEq]
      exact .inr this
/-- What a share of none is. -/
theorem none_is {x r : Nat} (h : Is (floatBits .quo .f64 x (floatOfInt .f64 0)) r) :
    (FloatKind.f64.format.order r r != some .eq) = true ∨ ((FloatKind.f64.format.order r r != some .eq) = false ∧ (FloatKind.f64.format.order r 4607182418800017408 == some .gt) = true) ∨
    ((FloatKind.f64.format.order r r != some .eq) = false ∧ (FloatKind.f64.format.order r 4607182418800017408 == some .gt) = false ∧ (FloatKind.f64.format.order r 13830554455654793216 == some .lt) = true) := by
  have e : floatOfInt .f64 0 = 0 := by decide
  rw [e] at h
  rcases quo_zero x with h1 | h1 | h1
  · rw [h1] at h
    exact .inl ((o_neq_self r).trans (decide_eq_true h))
  · rw [h1] at h
    obtain rfl : r = 9218868437227405312 := h
    exact .inr (.inl ⟨by decide, by decide⟩)
  · rw [h1] at h
    obtain rfl : r = 18442240474082181120 := h
    exact .inr (.inr ⟨by decide, by decide, by decide⟩)

set_option maxHeartbeats 1000000 in
/-- All but the last clause. -/
theorem walk {w : World} (d : Int) (_ : -9223372036854775808 ≤ d) (_ : d ≤ 9223372036854775807) (a : Int) (_ : -9223372036854775808 ≤ a) (_ : a ≤ 9223372036854775807) (A : Option Addr) (n c : Nat) (l : List Nat) (_ : Words l) (hr : Reads w w.heap.size A n (fls l)) (hn8 : n * 8 ≤ 140737488351232) :
    Calls Try.prog 3 #[.int .i64 d, .int .i64 a, .slice A n c] w fun e w' => e = .returned (.bool true) ∧ Below w.heap.size w w' := by
  have hn : n ≤ 140737488351232 := by omega
  obtain ⟨i0, hi, hz0, hz1, hz2⟩ := info_parts info_float
  have hop : ∀ t w, (binOp .quo t (.float .f64 (floatOfInt .f64 d)) (.float .f64 (floatOfInt .f64 a))).run Try.prog w = .ok (.float .f64 (rr .quo (floatOfInt .f64 d) (floatOfInt .f64 a) w)) (ww .quo (floatOfInt .f64 d) (floatOfInt .f64 a) w) := fun t w => run_arith .quo t _ _ w (by decide)
  have HR := Lib.hid hr
  clear hr
  go_enter Try.func3, Try.ntmps3
  go_wp2_with fail
  refine (part_any d a _).mono ?_
  rintro e w1 ⟨r, rfl, hir, hb1⟩
  go_wp2_with fail
  refine (lives_yes _).mono ?_
  rintro e w2 ⟨rfl, hb2⟩
  have hb3 := below_on hb1 hb2
  clear hb1 hb2
  go_wp2_with fail
  have hq := rr_is .quo (floatOfInt .f64 d) (floatOfInt .f64 a) w2
  have hb4 := ww_below .quo (floatOfInt .f64 d) (floatOfInt .f64 a) hb3
  generalize ww .quo (floatOfInt .f64 d) (floatOfInt .f64 a) w2 = w3 at *
  generalize rr .quo (floatOfInt .f64 d) (floatOfInt .f64 a) w2 = s at *
  clear hop hb3
  have q := same_any r s w3
  rw [hir.same hq] at q
  refine q.mono ?_
  clear q hq
  rintro e w' ⟨rfl, rfl⟩
  have hsz3 := hb4.size
  have h0 : (w3.alloc (.cells #[] 23)).ownsRow w3.heap.size 23 1 (.slice (some ⟨w3.heap.size, 0, none⟩) 0 0) 0 [] := World.ownsRow_lit w3 #[] 0 (Nat.le_refl _) (by unfold maxLen; omega) rfl
  have hb5 := (Below.refl w3.heap.size w3).alloc (Nat.le_refl _) (.cells #[] 23)
  have hr1 := ((HR.out.below hb4).more hsz3).alloc (Nat.le_refl _) (.cells #[] 23)
  go_wp2_with (at_builtin; go_must (refine appendAllG _ (by first | rfl | simp [Region.wanted, yielded]) (.tmp 22) (.tmp 23) 22 rfl w3.heap.size 23 i0 (.float .f64 0) 8 Try.underlying22 hi hz0 hz1 hz2 rfl (.slice (some ⟨w3.heap.size, 0, none⟩) 0 0) 0 [] rfl (by exact h0) w3.heap.size A n c (fls l) rfl hr1 (fls_one l) (by unfold maxLen; omega) (by omega) w3 hb5 (by simp) ?_); intro v' w4 hown4 _ hbel4)
  rw [Nat.zero_add, List.nil_append] at hown4
  obtain ⟨A1, c1, rfl, hr2, _, _⟩ := own_shape hown4
  have hr3 := ((HR.out.below hb4).more hsz3).below hbel4
  have hr4 := hr3.more hbel4.size
  have hb6 := below_on hb4 hbel4
  clear hown4 h0 hr1 hb5 hi hz0 hz1 hz2 hb4 hbel4 hr3
  go_wp2_with fail
  refine (mean_any A1 n c1 _ l _ hr2 (Nat.le_refl _) hn).mono ?_
  rintro e w5 ⟨m1, rfl, hm1, hb7⟩
  have hr5 := reads_over hr4 hb7
  have hb8 := below_on hb6 hb7
  clear hr2 hr4 hb6 hb7
  go_wp2_with fail
  refine (refMean_any A n c _ l _ hr5 (Nat.le_refl _) hn).mono ?_
  rintro e w6 ⟨m2, rfl, hm2, hb9⟩
  have hb10 := below_on hb8 hb9
  clear hr5 hb8 hb9
  go_wp2_with fail
  have q := same_any m1 m2 w6
  rw [hm1.same hm2] at q
  refine q.mono ?_
  clear q hm1 hm2
  rintro e w' ⟨rfl, rfl⟩
  by_cases ha : a = 0
  · subst ha
    have hnone := none_is hir
    clear hir
    rcases hnone with g1 | ⟨g1, g2⟩ | ⟨g1, g2, g3⟩
    all_goals
      go_wp2_with fail
      go_ret
      exact ⟨rfl, hb10⟩
  · have ga : (a != 0) = true := bne_iff_ne.2 ha
    go_wp2_with fail
    go_ret
    exact ⟨rfl, hb10⟩

set_option maxRecDepth 100000 in
/-- WHAT THE WALK GIVES, FOR EVERY ARGUMENT AND EVERY WORLD THAT HOLDS THE TABLES. -/
theorem contract (H : Type) (enc : TypeId × Value → H) (W : World) (base : Nat) (args : Array Value) (ds gs : List (DataW H)) (before : List MemPlace)
    (hval : ∀ (j : Nat) t v, Try.f3.params[j]? = some t → args[j]? = some v → Value.okWide Try.prog W .any base t v)
    (hW : DataW.Whole enc Try.prog Try.f3.params.toList Rows.ratePartsSpec.vars false W args.toList ds gs before)
    (hsz : (DataW.weightsEach Try.prog (Try.f3.params.toList ++ (OpenSpec.ofChange Rows.ratePartsSpec).bare.plain.varTypes Try.prog) (ds ++ gs)).all (· ≤ reachBytes) = true) (_hL : laidMetH Try.prog laidBoth W) :
    Calls Try.prog 3 args W fun e W' => ∃ v, e = .returned v ∧ Rows.ratePartsSpec.post enc Try.prog Try.f3 false true false false W args v W' := by
  have hW' := hW
  obtain ⟨p, q, hA0, hV, rfl, hfz, hnd⟩ := hW
  have hA : DataW.TrodAll enc Try.prog W 0 (fun _ => true) true Try.f3.params.toList args.toList ds p := hA0
  have hsz2 : (DataW.weightsEach Try.prog (Try.f3.params.toList ++ []) (ds ++ gs)).all (· ≤ reachBytes) = true := hsz
  rw [Try.params3] at hA hval hsz2
  obtain ⟨v0, vs0, d0, ds0, p0, q0, hargs, rfl, rfl, h0, r0⟩ := trodAll_cons hA
  obtain ⟨v1, vs1, d1, ds1, p1, q1, rfl, rfl, rfl, h1, r1⟩ := trodAll_cons r0
  obtain ⟨v2, vs2, d2, ds2, p2, q2, rfl, rfl, rfl, h2, r2⟩ := trodAll_cons r1
  obtain ⟨rfl, rfl, rfl⟩ := trodAll_nil r2
  obtain rfl : args = #[v0, v1, v2] := by cases args; simp_all
  obtain ⟨rfl, rfl⟩ := trodVars_none hV
  obtain ⟨a0, rfl, rfl, rfl, w0⟩ := open_int Try.underlying3 (hval 0 3 v0 rfl rfl) h0
  have bd0 := bounds_i64 w0
  obtain ⟨a1, rfl, rfl, rfl, w1⟩ := open_int Try.underlying3 (hval 1 3 v1 rfl rfl) h1
  have bd1 := bounds_i64 w1
  obtain ⟨A2, n2, c2, rfl⟩ := okWide_slice Try.underlying22 (hval 2 22 v2 rfl rfl)
  have k2 := h2
  have lt2 : ∀ x ∈ p2, x.block < W.heap.size := by obtain ⟨m, hm⟩ := k2; exact DataW.trod_lt m _ _ _ hm
  have hw2 : ∀ m ∈ d2.weights Try.prog 22, m ≤ reachBytes := fun m hm => by simpa using List.all_eq_true.1 hsz2 m (DataW.weights_mem_each (j := 2) (t := 22) rfl rfl m hm)
  obtain ⟨rd2, wd2, b2⟩ : Reads W W.heap.size A2 n2 (fls (flist W A2 n2)) ∧ Words (flist W A2 n2) ∧ n2 * 8 ≤ 140737488351232 := by
    obtain ⟨fuel, hf⟩ := h2
    have hf2 : DataW.trod enc Try.prog W 0 (fun _ => true) true fuel 22 [.slice A2 n2 c2] = some (d2, p2) := by simpa [Value.cells] using hf
    exact flts_in hf2 (block_lt_of Try.underlying22 cellsF hf2) hw2
  refine (walk a0 bd0.1 bd0.2 a1 bd1.1 bd1.2 A2 n2 c2 _ wd2 rd2 b2).mono fun e W' ⟨he, bel⟩ => ?_
  subst he
  exact ⟨_, rfl, _, _, _, [], _, [], hW', trodAll_mk1 (shut_bool Try.underlying4 _), (trodAll_cons_mk (shut_int Try.underlying3 w0) (trodAll_cons_mk (shut_int Try.underlying3 w1) (trodAll_cons_mk (Below.trod laidOut (by kernel_rfl) (of_decide_eq_true (by kernel_rfl)) k2 bel lt2) trodAll_mk0))), rfl, bel.frame _, fun h => by cases h⟩

theorem laid_met (os : Os) : laidMetH Try.prog laidBoth ((laidWorld os).forCall (fun _ _ => 0) ⟨#[], #[.int .i64 0, .int .i64 0, .slice none 0 0], []⟩).memory :=
  laidMetH_of_parts3 (fuel := 8) (laidMet_of_run' 8 (by kernel_rfl) (by kernel_rfl)) (by kernel_rfl) (by kernel_rfl)
theorem reads (os : Os) {H : Type} (enc : TypeId × Value → H) : ∃ places, DataW.whole enc Try.prog ((laidWorld os).forCall (fun _ _ => 0) ⟨#[], #[.int .i64 0, .int .i64 0, .slice none 0 0], []⟩).memory Try.f3.params.toList Rows.ratePartsSpec.vars false (#[.int .i64 0, .int .i64 0, .slice none 0 0] : Array Value).toList 8 = some ([.lit (.int .i64 0), .lit (.int .i64 0), .nil], [], places) :=
  ⟨[], by kernel_rfl⟩
set_option maxRecDepth 100000 in
theorem lifted (os : Os) (started : os.Started) (H : Type) (enc : TypeId × Value → H) (F : Stop.Interp) :
    ReturnsInHanded {} Try.checked os 3 .any ((OpenSpec.ofChange Rows.ratePartsSpec).preRow enc Try.prog Try.f3 Rows.ratePartsRow.domain false Rows.ratePartsRow.laid) (((OpenSpec.ofChange Rows.ratePartsSpec).at F).post enc Try.prog Try.f3 false true false false) := by
  obtain ⟨places, hx⟩ := reads os enc
  refine returnsInHanded_of_row (C := Try.checked) (s := (OpenSpec.ofChange Rows.ratePartsSpec)) own started (by kernel_rfl) Try.func3
    (witness_row_at (enc := enc) (C := Try.checked) false (laidWorld os) #[.int .i64 0, .int .i64 0, .slice none 0 0] rfl (by kernel_rfl) (by kernel_rfl) (by kernel_rfl)
      (OpenSpec.preRow_of_cond 8 hx (by kernel_rfl) (fun k hk => by cases hk) (by kernel_rfl) (laid_met os))) ?_
  intro W base args ds gs before hval hW _ hcond hsz hL _ _
  exact contract H enc W base args ds gs before hval hW hsz hL
theorem said : Rows.RatePartsSaid :=
  OpenClaim.holds_of_cond 3 Try.f3 rfl rfl rfl rfl rfl rfl rfl ⟨rfl, rfl, rfl, rfl, rfl⟩ rfl rfl rfl rfl rfl (by kernel_rfl) Try.func3 (by kernel_rfl)
    (of_decide_eq_true (by kernel_rfl)) (by unfold Func.isWrapper; first | (rw [if_pos (by decide +kernel)]; kernel_rfl) | (rw [if_neg (by decide +kernel)]; exact ⟨rfl, rfl⟩))
    (fun os started H enc _ F => by rw [OpenClaim.pre_eq_preRow]; exact lifted os started H enc F)
end Go.Proofs.Ytnmhmekomoameaa.rateParts
