/-
  What the statements ask of every program at one handful of rates, returns true.
  Conditions: none.
-/
import Derived.Test.YthnjnpighnlodaaRr
import Derived.Test.YthnjnpighnlodaaRfl
namespace Go.Proofs.Ythnjnpighnlodaa
open Go.RowKit

theorem part00 : floatBits .quo .f64 (floatOfInt .f64 0) (floatOfInt .f64 0) = none := by kernel_rfl
theorem part12 : floatBits .quo .f64 (floatOfInt .f64 1) (floatOfInt .f64 2) = some 4602678819172646912 := by kernel_rfl
theorem mean12 : meanC [4607182418800017408, 4611686018427387904] 2 = some 4609434218613702656 := by kernel_rfl
theorem cmp12 : cmpT 4607182418800017408 4611686018427387904 = -1 := by decide
theorem wst133 : wst [4607182418800017408, 4613937818241073152, 4613937818241073152] 3 = 1 := by decide
theorem floor29 : floatToIntVal .f64 (floorW 4613712638259704627) .i64 = some 2 := by kernel_rfl
theorem steps29 : stepsC 4613712638259704627 7 2 = 2 := by decide

theorem nanOf_lt (x y : Nat) (w : World) : nanOf x y w < 18446744073709551616 := by
  unfold nanOf
  generalize w.tape w.drawn _ = t
  have h1 := Nat.mod_lt t (show 0 < 2 by decide)
  have h2 : t / 2 % 4503599627370495 < 4503599627370495 := Nat.mod_lt _ (by decide)
  omega
/-- The share of none of none. -/
theorem part00_any (w : World) :
    Calls Try.prog 12 #[.int .i64 0, .int .i64 0] w fun e w' => ∃ r, e = .returned (.float .f64 r) ∧ Fl.nan r ∧ r < 18446744073709551616 ∧ Below w.heap.size w w' := by
  have hop : ∀ t w, (binOp .quo t (.float .f64 (floatOfInt .f64 0)) (.float .f64 (floatOfInt .f64 0))).run Try.prog w = .ok (.float .f64 (rr .quo (floatOfInt .f64 0) (floatOfInt .f64 0) w)) (ww .quo (floatOfInt .f64 0) (floatOfInt .f64 0) w) := fun t w => run_arith .quo t _ _ w (by decide)
  have hfin : Hid (Fl.nan (rr .quo (floatOfInt .f64 0) (floatOfInt .f64 0) w) ∧ rr .quo (floatOfInt .f64 0) (floatOfInt .f64 0) w < 18446744073709551616 ∧ Below w.heap.size w (ww .quo (floatOfInt .f64 0) (floatOfInt .f64 0) w)) :=
    Lib.hid ⟨by have := rr_is .quo (floatOfInt .f64 0) (floatOfInt .f64 0) w; rw [part00] at this; exact this, by unfold rr; rw [part00]; exact nanOf_lt _ _ _, ww_below _ _ _ (Below.refl _ _)⟩
  go_enter Try.func12, Try.ntmps12
  go_wp2_with (simp only [hop])
  go_ret
  exact ⟨_, rfl, hfin.out.1, hfin.out.2.1, hfin.out.2.2⟩
theorem reads_lit (w : World) (t : TypeId) (xs : List Value) : Reads (w.alloc (.cells xs.toArray t)) (w.heap.size + 1) (some ⟨w.heap.size, 0, none⟩) xs.length xs := by
  refine ⟨rfl, fun _ => ⟨_, rfl, by simp, fun j u hu => ?_⟩⟩
  have e : (⟨w.heap.size, 0, none⟩ : Addr).add j = ⟨w.heap.size, j, none⟩ := by unfold Addr.add; split <;> simp_all
  rw [e, World.cell?_alloc_at _ _ _ _ rfl]
  simpa using hu
theorem reads_on {w : World} {A : Option Addr} {n : Nat} {xs : List Value} (h : Reads w w.heap.size A n xs) (o : Obj) : Reads (w.alloc o) (w.alloc o).heap.size A n xs :=
  (h.alloc (Nat.le_refl _) o).more (by simp)
theorem reads_over {w w' : World} {A : Option Addr} {n : Nat} {xs : List Value} (h : Reads w w.heap.size A n xs) (hb : Below w.heap.size w w') : Reads w' w'.heap.size A n xs :=
  (h.below hb).more hb.size
theorem below_on {w w1 w2 : World} (h : Below w.heap.size w w1) (k : Below w1.heap.size w1 w2) : Below w.heap.size w w2 := h.trans (k.mono h.size)
/-- The rows that the statements ask of. -/
def rows3 (g r : Nat) : List Row := [⟨some ⟨g, 0, none⟩, 1, 1, [4607182418800017408]⟩, ⟨some ⟨g + 1, 0, none⟩, 0, 0, []⟩, ⟨some ⟨g + 1 + 1, 0, none⟩, 1, 1, [r]⟩]
theorem rows3_rank (g r : Nat) (hr : Fl.nan r) : Rk.rankTo (abvR (rows3 g r)) 3 = [2, 0, 1] := by
  have h10 : abvR (rows3 g r) 1 0 = false := rfl
  have h20 : abvR (rows3 g r) 2 0 = true := by
    rw [abvR_iff]
    refine ⟨rfl, .inr ?_⟩
    have hw : ∀ x : Nat, wst [x] 1 = 0 := fun x => by unfold wst; split <;> rfl
    have e0 : (rowAt (rows3 g r) 0).top = 4607182418800017408 := by show (if 0 < 1 then [4607182418800017408].getD (wst [4607182418800017408] 1) 0 else 0) = _; rw [hw]; rfl
    have e2 : (rowAt (rows3 g r) 2).top = r := by show (if 0 < 1 then [r].getD (wst [r] 1) 0 else 0) = _; rw [hw]; rfl
    rw [e0, e2, T_nan hr]
    decide
  simp [Rk.rankTo, Rk.ins, h10, h20]
abbrev world3 (w : World) (r : Nat) : World :=
  (((w.alloc (.cells #[.float .f64 4607182418800017408] 23)).alloc (.cells #[] 23)).alloc (.cells #[.float .f64 r] 23)).alloc
    (.cells #[.slice (some ⟨w.heap.size, 0, none⟩) 1 1, .slice (some ⟨w.heap.size + 1, 0, none⟩) 0 0, .slice (some ⟨w.heap.size + 1 + 1, 0, none⟩) 1 1] 22)
theorem rows3_are (w : World) (r : Nat) (h : r < 18446744073709551616) : RowsAre (world3 w r) (world3 w r).heap.size (some ⟨w.heap.size + 1 + 1 + 1, 0, none⟩) 3 (rows3 w.heap.size r) := by
  have s1 : (w.alloc (.cells #[.float .f64 4607182418800017408] 23)).heap.size = w.heap.size + 1 := by simp
  have s2 : ((w.alloc (.cells #[.float .f64 4607182418800017408] 23)).alloc (.cells #[] 23)).heap.size = w.heap.size + 1 + 1 := by simp
  have s3 : (((w.alloc (.cells #[.float .f64 4607182418800017408] 23)).alloc (.cells #[] 23)).alloc (.cells #[.float .f64 r] 23)).heap.size = w.heap.size + 1 + 1 + 1 := by simp
  have s4 : (world3 w r).heap.size = w.heap.size + 1 + 1 + 1 + 1 := by simp
  have r1 := reads_lit w 23 [.float .f64 4607182418800017408]
  rw [← s1] at r1
  have r2 := reads_on (reads_on (reads_on r1 (.cells #[] 23)) (.cells #[.float .f64 r] 23)) (.cells #[.slice (some ⟨w.heap.size, 0, none⟩) 1 1, .slice (some ⟨w.heap.size + 1, 0, none⟩) 0 0, .slice (some ⟨w.heap.size + 1 + 1, 0, none⟩) 1 1] 22)
  have r3 := reads_lit ((w.alloc (.cells #[.float .f64 4607182418800017408] 23)).alloc (.cells #[] 23)) 23 [.float .f64 r]
  rw [s2, ← s3] at r3
  have r4 := reads_on r3 (.cells #[.slice (some ⟨w.heap.size, 0, none⟩) 1 1, .slice (some ⟨w.heap.size + 1, 0, none⟩) 0 0, .slice (some ⟨w.heap.size + 1 + 1, 0, none⟩) 1 1] 22)
  have r5 := reads_lit (((w.alloc (.cells #[.float .f64 4607182418800017408] 23)).alloc (.cells #[] 23)).alloc (.cells #[.float .f64 r] 23)) 22
    [.slice (some ⟨w.heap.size, 0, none⟩) 1 1, .slice (some ⟨w.heap.size + 1, 0, none⟩) 0 0, .slice (some ⟨w.heap.size + 1 + 1, 0, none⟩) 1 1]
  rw [s3, ← s4] at r5
  refine ⟨r5, ?_⟩
  intro x hx
  simp only [rows3, List.mem_cons, List.not_mem_nil, or_false] at hx
  rcases hx with rfl | rfl | rfl
  · exact ⟨r2, fun y hy => by simp at hy; subst hy; decide, show 1 ≤ 140737488351232 by decide⟩
  · exact ⟨Reads.none_, fun y hy => by simp at hy, show 0 ≤ 140737488351232 by decide⟩
  · exact ⟨r4, fun y hy => by simp at hy; subst hy; exact h, show 1 ≤ 140737488351232 by decide⟩

theorem smooth3 (r : Nat) (hr : Fl.nan r) : smoothC r 4613937818241073152 4602678819172646912 = some 4613937818241073152 := by
  have h1 : nanB 4613937818241073152 = false := by decide
  have h2 : nanB r = true := decide_eq_true hr
  unfold smoothC
  rw [h1, h2]
  rfl
theorem eqs_ : (FloatKind.f64.format.order 4602678819172646912 4602678819172646912 == some .eq) = true ∧ (FloatKind.f64.format.order 4609434218613702656 4609434218613702656 == some .eq) = true ∧ (FloatKind.f64.format.order 4613937818241073152 4613937818241073152 == some .eq) = true := ⟨by kernel_rfl, by kernel_rfl, by kernel_rfl⟩
set_option maxHeartbeats 1000000 in
theorem lives_yes (w : World) :
    Calls Try.prog 13 #[] w fun e w' => e = .returned (.bool true) ∧ Below w.heap.size w w' := by
  go_enter Try.func13, Try.ntmps13
  go_wp2_with fail
  refine (part00_any _).mono ?_
  rintro e w1 ⟨r, rfl, hr, hrw, hb1⟩
  go_wp2_with fail
  have q := rank_any (some ⟨w1.heap.size + 1 + 1 + 1, 0, none⟩) 3 3 _ _ _ (rows3_are w1 r hrw) (Nat.le_refl _) (by decide)
  rw [rows3_rank w1.heap.size r hr] at q
  have hb2 : Below w.heap.size w (world3 w1 r) := (((hb1.alloc hb1.size _).alloc (by simp; have := hb1.size; omega) _).alloc (by simp; have := hb1.size; omega) _).alloc (by simp; have := hb1.size; omega) _
  refine q.mono ?_
  clear q
  rintro e w2 ⟨v2, rfl, hown2, hb3⟩
  have hb4 := below_on hb2 hb3
  obtain ⟨g7, c2, rfl, _, _⟩ := hown2.form (by decide)
  have hr2 := Reads.of_own hown2
  clear hown2 hb2 hb3
  go_wp2_with fail
  have hb5 := hb4.alloc hb4.size (.cells (fls [4607182418800017408, 4613937818241073152, 4613937818241073152]).toArray 23)
  have hr5 := reads_on hr2 (.cells (fls [4607182418800017408, 4613937818241073152, 4613937818241073152]).toArray 23)
  have q2 := worst_any (some ⟨w2.heap.size, 0, none⟩) 3 3 _ [4607182418800017408, 4613937818241073152, 4613937818241073152] _ (reads_lit w2 23 (fls [4607182418800017408, 4613937818241073152, 4613937818241073152])) (by decide)
  rw [wst133] at q2
  refine q2.mono ?_
  clear q2
  rintro e w' ⟨rfl, rfl⟩
  clear hb4 hr2
  generalize w2.alloc (.cells (fls [4607182418800017408, 4613937818241073152, 4613937818241073152]).toArray 23) = w3 at *
  have hq1 : (FloatKind.f64.format.order r r != some .eq) = true := (o_neq_self r).trans (decide_eq_true hr)
  have eqs := eqs_
  obtain ⟨g1, g2, g3⟩ := eqs
  go_wp2_with fail
  refine (part_any 1 2 _).mono ?_
  rintro e w4 ⟨r2, rfl, hr2, hb6⟩
  rw [part12] at hr2
  obtain rfl : r2 = 4602678819172646912 := hr2
  have hb7 := below_on hb5 hb6
  have hr7 := reads_over hr5 hb6
  clear hb5 hb6 hr5
  go_wp2_with fail
  have hb8 := hb7.alloc hb7.size (.cells (fls [4607182418800017408, 4611686018427387904]).toArray 23)
  have hr8 := reads_on hr7 (.cells (fls [4607182418800017408, 4611686018427387904]).toArray 23)
  have q3 := mean_any (some ⟨w4.heap.size, 0, none⟩) 2 2 _ [4607182418800017408, 4611686018427387904] _ (reads_lit w4 23 (fls [4607182418800017408, 4611686018427387904])) (by simp) (by decide)
  rw [mean12] at q3
  refine q3.mono ?_
  clear q3 hb7 hr7
  rintro e w5 ⟨r3, rfl, hr3, hb9⟩
  obtain rfl : r3 = 4609434218613702656 := hr3
  have hb10 := below_on hb8 hb9
  have hr10 := reads_over hr8 hb9
  clear hb8 hb9 hr8
  go_wp2_with fail
  refine (smooth_any r 4613937818241073152 4602678819172646912 _).mono ?_
  rintro e w6 ⟨r4, rfl, hr4, hb11⟩
  rw [smooth3 r hr] at hr4
  obtain rfl : r4 = 4613937818241073152 := hr4
  have hb12 := below_on hb10 hb11
  have hr12 := reads_over hr10 hb11
  clear hb10 hb11 hr10
  go_wp2_with fail
  have q4 := compare_any 4607182418800017408 4611686018427387904 w6
  rw [cmp12] at q4
  refine q4.mono ?_
  clear q4
  rintro e w' ⟨rfl, rfl⟩
  go_wp2_with fail
  have q5 := steps_ok 4613712638259704627 7 2 w6 (fun _ _ _ _ => floor29)
  rw [steps29] at q5
  refine q5.mono ?_
  clear q5
  rintro e w' ⟨rfl, rfl⟩
  obtain ⟨ad, e1, _, hc0⟩ := hr12.num (k := 0) (by decide)
  obtain ⟨ad2, e2, _, hc2⟩ := hr12.num (k := 2) (by decide)
  injection e1 with e1
  injection e2 with e2
  subst e1 e2
  have hc0' : w6.cell? ⟨g7, 0, none⟩ = some (.int .i64 2) := hc0
  have hc2' : w6.cell? ⟨g7, 2, none⟩ = some (.int .i64 1) := hc2
  clear hc0 hc2 hr12
  go_wp2_with fail
  go_ret
  exact ⟨rfl, hb12⟩
end Go.Proofs.Ythnjnpighnlodaa
