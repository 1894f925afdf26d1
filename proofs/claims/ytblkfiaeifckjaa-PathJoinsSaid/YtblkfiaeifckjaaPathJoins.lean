/-
  PathJoins is true for all lists of texts: Join tells the definition's path and errors, Below what the definition's tells; what is handed in stays.
  Conditions: none.
-/
import Derived.Test.YtblkfiaeifckjaaN14
namespace Go.Proofs.Ytblkfiaeifckjaa.pathJoins
open Go.ChangeShapes Go.WideShapes Go.ChangeAt Go.RowKit

set_option maxRecDepth 100000 in
set_option maxHeartbeats 2000000 in
theorem walk {w : World} (A0 : Option Addr) (n0 c0 : Nat) (l0 : List Bs) (r0 : Reads w w.heap.size A0 n0 (svs l0)) (f0 : Fine l0) (b0 : n0 * 16 ≤ 140737488351232) (nc0 : n0 ≤ c0)
    (A1 : Option Addr) (n1 c1 : Nat) (l1 : List Bs) (r1 : Reads w w.heap.size A1 n1 (svs l1)) (_ : Fine l1) (b1 : n1 * 16 ≤ 140737488351232) (_ : n1 ≤ c1) :
    Calls Try.prog 5 #[.slice A0 n0 c0, .slice A1 n1 c1] w fun e w' => e = .returned (.bool true) ∧ Below w.heap.size w w' := by
  obtain ⟨i0, hi, hz0, hz1, hz2⟩ := info_parts info_str
  have ll := r0.slen
  go_enter Try.func5, Try.ntmps5
  have hlit : (w.alloc (.cells #[] 9)).ownsRow w.heap.size 9 1 (.slice (some ⟨w.heap.size, 0, none⟩) 0 0) 0 [] := World.ownsRow_lit w #[] 0 (Nat.le_refl _) (Nat.zero_le _) rfl
  have hal := (Below.refl w.heap.size w).alloc (Nat.le_refl _) (.cells #[] 9)
  have R0 := Lib.hid (r0.alloc (Nat.le_refl _) (.cells #[] 9))
  have R0' := Lib.hid r0
  have R1 := Lib.hid r1
  clear r0 r1
  go_wp2_with (at_builtin; refine appendAll _ rfl _ _ 26 rfl w.heap.size 9 i0 (.string ⟨#[]⟩) 16 Try.underlying26 hi hz0 hz1 hz2 rfl _ 0 [] rfl (by exact hlit) w.heap.size A0 n0 c0 (svs l0) rfl (by exact R0.out) (svs_one l0) (by unfold maxLen; omega) (by omega) w hal (by simp) ?_; intro v' w1 hown1 _ hb1)
  rw [Nat.zero_add, List.nil_append] at hown1
  obtain ⟨A, c, rfl, hc⟩ := own_slice hown1
  have RO := Lib.hid (Reads.of_own hown1)
  have R0 := Lib.hid (R0'.out.below hb1)
  have R1 := Lib.hid (R1.out.below hb1)
  have HJ := Lib.hid (join A n0 c l0 w1 RO.out f0 (by omega) hc)
  clear hlit hal hown1
  obtain ⟨rJ, hrJ⟩ : ∃ r, joinE l0 = r := ⟨_, rfl⟩
  obtain ⟨eJ, pJ⟩ := rJ
  rw [hrJ] at HJ
  dsimp only at HJ
  unfold sv at HJ
  go_wp2_with (fail)
  refine HJ.out.mono ?_
  rintro e w2 ⟨rfl, hb2⟩
  have RO := Lib.hid (RO.out.below hb2)
  have hb12 := hb1.trans (hb2.mono hb1.size)
  have R0 := Lib.hid (R0.out.below (hb2.mono hb1.size))
  have R1 := Lib.hid (R1.out.below (hb2.mono hb1.size))
  clear HJ
  go_wp2_with (fail)
  refine (refJoin A0 n0 c0 l0 _ _ R0.out f0 (by omega)).mono ?_
  rintro e w3 ⟨rfl, hw3⟩
  rw [hw3, hrJ]
  clear hw3
  unfold sv
  go_wp2_with (fail)
  refine (lives _).mono ?_
  rintro e w4 ⟨rfl, hb4⟩
  have RO := Lib.hid ((RO.out.below (hb4.mono hb2.size)))
  have HB := Lib.hid (hb12.trans (hb4.mono hb12.size))
  have R0 := Lib.hid (R0.out.below (hb4.mono hb12.size))
  have R1 := Lib.hid (R1.out.below (hb4.mono hb12.size))
  clear hb1 hb2 hb4 hb12
  obtain ⟨P, hP⟩ : ∃ P : ByteArray, (⟨pJ.toArray⟩ : ByteArray) = P := ⟨_, rfl⟩
  rw [hP]
  go_wp2_with (fail)
  refine (below A1 A n1 n0 c1 c l1 l0 _ _ _ R1.out RO.out (by omega) hc).mono ?_
  rintro e w5 ⟨rfl, q5, rfl⟩
  obtain ⟨x, hx⟩ : ∃ x, belowB l1 l0 = x := ⟨_, rfl⟩
  rw [hx]
  go_wp2_with (fail)
  refine (refBelow A1 A0 n1 n0 c1 c0 l1 l0 _ _ _ (R1.out.drewN _) (R0.out.drewN _) (by omega) nc0).mono ?_
  rintro e w6 ⟨rfl, q6, rfl⟩
  rw [hx]
  cases x
  all_goals
    go_wp2_with (fail)
    refine (refSame A A0 n0 n0 c c0 l0 l0 _ _ _ (RO.out.drewN _) (R0.out.drewN _) (by omega)).mono ?_
    rintro e w7 ⟨rfl, q7, rfl⟩
    rw [show decide (l0 = l0) = true from decide_eq_true rfl]
    go_wp2
    go_ret
    exact ⟨rfl, HB.out.trans (drew_below _)⟩
set_option maxRecDepth 100000 in
/-- WHAT THE WALK GIVES, FOR EVERY ARGUMENT AND EVERY WORLD THAT HOLDS THE TABLES. -/
theorem contract (H : Type) (enc : TypeId × Value → H) (W : World) (base : Nat) (args : Array Value) (ds gs : List (DataW H)) (before : List MemPlace)
    (hval : ∀ (j : Nat) t v, Try.f5.params[j]? = some t → args[j]? = some v → Value.okWide Try.prog W .any base t v)
    (hW : DataW.Whole enc Try.prog Try.f5.params.toList Rows.pathJoinsSpec.vars false W args.toList ds gs before)
    (hsz : (DataW.weightsEach Try.prog (Try.f5.params.toList ++ (OpenSpec.ofChange Rows.pathJoinsSpec).bare.plain.varTypes Try.prog) (ds ++ gs)).all (· ≤ reachBytes) = true) (_hL : laidMetH Try.prog laidBoth W) :
    Calls Try.prog 5 args W fun e W' => ∃ v, e = .returned v ∧ Rows.pathJoinsSpec.post enc Try.prog Try.f5 false true false false W args v W' := by
  have hW' := hW
  obtain ⟨p, q, hA0, hV, rfl, hfz, hnd⟩ := hW
  have hA : DataW.TrodAll enc Try.prog W 0 (fun _ => true) true Try.f5.params.toList args.toList ds p := hA0
  have hsz2 : (DataW.weightsEach Try.prog (Try.f5.params.toList ++ []) (ds ++ gs)).all (· ≤ reachBytes) = true := hsz
  rw [Try.params5] at hA hval hsz2
  obtain ⟨v0, vs0, d0, ds0, p0, q0, hargs, rfl, rfl, h0, r0⟩ := trodAll_cons hA
  obtain ⟨v1, vs1, d1, ds1, p1, q1, rfl, rfl, rfl, h1, r1⟩ := trodAll_cons r0
  obtain ⟨rfl, rfl, rfl⟩ := trodAll_nil r1
  obtain rfl : args = #[v0, v1] := by cases args; simp_all
  obtain ⟨rfl, rfl⟩ := trodVars_none hV
  obtain ⟨A0, n0, c0, rfl⟩ := okWide_slice Try.underlying26 (hval 0 26 v0 rfl rfl)
  have k0 := h0
  have lt0 : ∀ x ∈ p0, x.block < W.heap.size := by obtain ⟨m, hm⟩ := k0; exact DataW.trod_lt m _ _ _ hm
  have hw0 : ∀ m ∈ d0.weights Try.prog 26, m ≤ reachBytes := fun m hm => by simpa using List.all_eq_true.1 hsz2 m (DataW.weights_mem_each (j := 0) (t := 26) rfl rfl m hm)
  obtain ⟨l0, rd0, fn0, b0, nc0⟩ : ∃ l : List Bs, Reads W W.heap.size A0 n0 (svs l) ∧ Fine l ∧ n0 * 16 ≤ 140737488351232 ∧ n0 ≤ c0 := by obtain ⟨fuel, hf⟩ := h0; exact strs_in (by simpa [Value.cells] using hf) hw0
  obtain ⟨A1, n1, c1, rfl⟩ := okWide_slice Try.underlying26 (hval 1 26 v1 rfl rfl)
  have k1 := h1
  have lt1 : ∀ x ∈ p1, x.block < W.heap.size := by obtain ⟨m, hm⟩ := k1; exact DataW.trod_lt m _ _ _ hm
  have hw1 : ∀ m ∈ d1.weights Try.prog 26, m ≤ reachBytes := fun m hm => by simpa using List.all_eq_true.1 hsz2 m (DataW.weights_mem_each (j := 1) (t := 26) rfl rfl m hm)
  obtain ⟨l1, rd1, fn1, b1, nc1⟩ : ∃ l : List Bs, Reads W W.heap.size A1 n1 (svs l) ∧ Fine l ∧ n1 * 16 ≤ 140737488351232 ∧ n1 ≤ c1 := by obtain ⟨fuel, hf⟩ := h1; exact strs_in (by simpa [Value.cells] using hf) hw1
  refine (walk A0 n0 c0 l0 rd0 fn0 b0 nc0 A1 n1 c1 l1 rd1 fn1 b1 nc1).mono fun e W' ⟨he, bel⟩ => ?_
  subst he
  exact ⟨_, rfl, _, _, _, [], _, [], hW', trodAll_mk1 (shut_bool Try.underlying4 _), (trodAll_cons_mk (Below.trod laidOut (by kernel_rfl) (of_decide_eq_true (by kernel_rfl)) k0 bel lt0) (trodAll_cons_mk (Below.trod laidOut (by kernel_rfl) (of_decide_eq_true (by kernel_rfl)) k1 bel lt1) trodAll_mk0)), rfl, bel.frame _, fun h => by cases h⟩

theorem laid_met (os : Os) : laidMetH Try.prog laidBoth ((laidWorld os).forCall (fun _ _ => 0) ⟨#[], #[.slice none 0 0, .slice none 0 0], []⟩).memory :=
  laidMetH_of_parts3 (fuel := 8) (laidMet_of_run' 8 (by kernel_rfl) (by kernel_rfl)) (by kernel_rfl) (by kernel_rfl)
theorem reads (os : Os) {H : Type} (enc : TypeId × Value → H) : ∃ places, DataW.whole enc Try.prog ((laidWorld os).forCall (fun _ _ => 0) ⟨#[], #[.slice none 0 0, .slice none 0 0], []⟩).memory Try.f5.params.toList Rows.pathJoinsSpec.vars false (#[.slice none 0 0, .slice none 0 0] : Array Value).toList 8 = some ([.nil, .nil], [], places) :=
  ⟨[], by kernel_rfl⟩
set_option maxRecDepth 100000 in
theorem lifted (os : Os) (started : os.Started) (H : Type) (enc : TypeId × Value → H) (F : Stop.Interp) :
    ReturnsInHanded {} Try.checked os 5 .any ((OpenSpec.ofChange Rows.pathJoinsSpec).preRow enc Try.prog Try.f5 Rows.pathJoinsRow.domain false Rows.pathJoinsRow.laid) (((OpenSpec.ofChange Rows.pathJoinsSpec).at F).post enc Try.prog Try.f5 false true false false) := by
  obtain ⟨places, hx⟩ := reads os enc
  refine returnsInHanded_of_row (C := Try.checked) (s := (OpenSpec.ofChange Rows.pathJoinsSpec)) own started (by kernel_rfl) Try.func5
    (witness_row_at (enc := enc) (C := Try.checked) false (laidWorld os) #[.slice none 0 0, .slice none 0 0] rfl (by kernel_rfl) (by kernel_rfl) (by kernel_rfl)
      (OpenSpec.preRow_of_cond 8 hx (by kernel_rfl) (fun k hk => by cases hk) (by kernel_rfl) (laid_met os))) ?_
  intro W base args ds gs before hval hW _ hcond hsz hL _ _
  exact contract H enc W base args ds gs before hval hW hsz hL
theorem said : Rows.PathJoinsSaid :=
  OpenClaim.holds_of_cond 5 Try.f5 rfl rfl rfl rfl rfl rfl rfl ⟨rfl, rfl, rfl, rfl, rfl⟩ rfl rfl rfl rfl rfl (by kernel_rfl) Try.func5 (by kernel_rfl)
    (of_decide_eq_true (by kernel_rfl)) (by unfold Func.isWrapper; first | (rw [if_pos (by decide +kernel)]; kernel_rfl) | (rw [if_neg (by decide +kernel)]; exact ⟨rfl, rfl⟩))
    (fun os started H enc _ F => by rw [OpenClaim.pre_eq_preRow]; exact lifted os started H enc F)
end Go.Proofs.Ytblkfiaeifckjaa.pathJoins
