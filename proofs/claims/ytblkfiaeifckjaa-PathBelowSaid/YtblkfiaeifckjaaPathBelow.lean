/-
  PathBelow is true for all lists of texts: what leads further on from what leads further on leads further on; both ways only the same.
  Conditions: none.
-/
import Derived.Test.YtblkfiaeifckjaaN13
namespace Go.Proofs.Ytblkfiaeifckjaa.pathBelow
open Go.ChangeShapes Go.WideShapes Go.ChangeAt Go.RowKit

theorem below_nil (l : List Bs) : belowB [] l = true := by simp [belowB]
theorem below_self (l : List Bs) : belowB l l = true := by simp [belowB]
theorem below_both {a b : List Bs} (h : belowB a b = true) : belowB b a = decide (a = b) := by
  simp only [belowB, Bool.and_eq_true, decide_eq_true_eq] at h
  obtain ⟨h1, h2⟩ := h
  by_cases hl : a.length = b.length
  · rw [hl, List.take_length] at h2
    subst h2
    simp [belowB]
  · have h3 : ¬ b.length ≤ a.length := by omega
    have h4 : ¬ a = b := fun e => hl (by rw [e])
    simp [belowB, h3, h4]
theorem below_trans {a b c : List Bs} (h : belowB a b = true) (k : belowB b c = true) : belowB a c = true := by
  simp only [belowB, Bool.and_eq_true, decide_eq_true_eq] at h k ⊢
  refine ⟨by omega, ?_⟩
  have h2 := h.2
  rw [k.2, List.take_take, Nat.min_eq_left h.1] at h2
  exact h2

set_option maxRecDepth 100000 in
set_option maxHeartbeats 2000000 in
theorem walk {w : World} (A0 : Option Addr) (n0 c0 : Nat) (l0 : List Bs) (r0 : Reads w w.heap.size A0 n0 (svs l0)) (_ : Fine l0) (b0 : n0 * 16 ≤ 140737488351232) (nc0 : n0 ≤ c0)
    (A1 : Option Addr) (n1 c1 : Nat) (l1 : List Bs) (r1 : Reads w w.heap.size A1 n1 (svs l1)) (_ : Fine l1) (b1 : n1 * 16 ≤ 140737488351232) (nc1 : n1 ≤ c1)
    (A2 : Option Addr) (n2 c2 : Nat) (l2 : List Bs) (r2 : Reads w w.heap.size A2 n2 (svs l2)) (_ : Fine l2) (_ : n2 * 16 ≤ 140737488351232) (nc2 : n2 ≤ c2) :
    Calls Try.prog 8 #[.slice A0 n0 c0, .slice A1 n1 c1, .slice A2 n2 c2] w fun e w' => e = .returned (.bool true) ∧ Below w.heap.size w w' := by
  have R0 := Lib.hid r0
  have R1 := Lib.hid r1
  have R2 := Lib.hid r2
  clear r0 r1 r2
  go_enter Try.func8, Try.ntmps8
  go_wp2_with (fail)
  refine (lives _).mono ?_
  rintro e w1 ⟨rfl, hb1⟩
  have HB := Lib.hid hb1
  have R0 := Lib.hid (R0.out.below hb1)
  have R1 := Lib.hid (R1.out.below hb1)
  have R2 := Lib.hid (R2.out.below hb1)
  clear hb1
  go_wp2_with (fail)
  refine (below none A0 0 n0 0 c0 [] l0 _ 0 _ Reads.none_ R0.out (by decide) nc0).mono ?_
  rintro e w2 ⟨rfl, q2, rfl⟩
  rw [below_nil]
  go_wp2_with (fail)
  refine (below A0 A0 n0 n0 c0 c0 l0 l0 _ _ _ (R0.out.drewN _) (R0.out.drewN _) (by omega) nc0).mono ?_
  rintro e w3 ⟨rfl, q3, rfl⟩
  rw [below_self]
  go_wp2_with (fail)
  refine (below A0 A1 n0 n1 c0 c1 l0 l1 _ _ _ (R0.out.drewN _) (R1.out.drewN _) (by omega) nc1).mono ?_
  rintro e w4 ⟨rfl, q4, rfl⟩
  obtain ⟨x01, h01⟩ : ∃ x, belowB l0 l1 = x := ⟨_, rfl⟩
  rw [h01]
  cases x01
  · go_wp2_with (fail)
    refine (below A0 A1 n0 n1 c0 c1 l0 l1 _ _ _ (R0.out.drewN _) (R1.out.drewN _) (by omega) nc1).mono ?_
    rintro e w5 ⟨rfl, q5, rfl⟩
    rw [h01]
    go_wp2
    go_ret
    exact ⟨rfl, HB.out.trans (drew_below _)⟩
  · have hboth := below_both h01
    go_wp2_with (fail)
    refine (below A1 A0 n1 n0 c1 c0 l1 l0 _ _ _ (R1.out.drewN _) (R0.out.drewN _) (by omega) nc0).mono ?_
    rintro e w5 ⟨rfl, q5, rfl⟩
    rw [hboth]
    go_wp2_with (fail)
    refine (refSame A0 A1 n0 n1 c0 c1 l0 l1 _ _ _ (R0.out.drewN _) (R1.out.drewN _) (by omega)).mono ?_
    rintro e w6 ⟨rfl, q6, rfl⟩
    obtain ⟨d, hd⟩ : ∃ d, decide (l0 = l1) = d := ⟨_, rfl⟩
    rw [hd]
    clear hboth hd
    cases d
    all_goals
      go_wp2_with (fail)
      refine (below A0 A1 n0 n1 c0 c1 l0 l1 _ _ _ (R0.out.drewN _) (R1.out.drewN _) (by omega) nc1).mono ?_
      rintro e w7 ⟨rfl, q7, rfl⟩
      rw [h01]
      go_wp2_with (fail)
      refine (below A1 A2 n1 n2 c1 c2 l1 l2 _ _ _ (R1.out.drewN _) (R2.out.drewN _) (by omega) nc2).mono ?_
      rintro e w8 ⟨rfl, q8, rfl⟩
      obtain ⟨x12, h12⟩ : ∃ x, belowB l1 l2 = x := ⟨_, rfl⟩
      rw [h12]
      cases x12
      · go_wp2
        go_ret
        exact ⟨rfl, HB.out.trans (drew_below _)⟩
      · go_wp2_with (fail)
        refine (below A0 A2 n0 n2 c0 c2 l0 l2 _ _ _ (R0.out.drewN _) (R2.out.drewN _) (by omega) nc2).mono ?_
        rintro e w9 ⟨rfl, q9, rfl⟩
        rw [below_trans h01 h12]
        go_wp2
        go_ret
        exact ⟨rfl, HB.out.trans (drew_below _)⟩
set_option maxRecDepth 100000 in
/-- WHAT THE WALK GIVES, FOR EVERY ARGUMENT AND EVERY WORLD THAT HOLDS THE TABLES. -/
theorem contract (H : Type) (enc : TypeId × Value → H) (W : World) (base : Nat) (args : Array Value) (ds gs : List (DataW H)) (before : List MemPlace)
    (hval : ∀ (j : Nat) t v, Try.f8.params[j]? = some t → args[j]? = some v → Value.okWide Try.prog W .any base t v)
    (hW : DataW.Whole enc Try.prog Try.f8.params.toList Rows.pathBelowSpec.vars false W args.toList ds gs before)
    (hsz : (DataW.weightsEach Try.prog (Try.f8.params.toList ++ (OpenSpec.ofChange Rows.pathBelowSpec).bare.plain.varTypes Try.prog) (ds ++ gs)).all (· ≤ reachBytes) = true) (_hL : laidMetH Try.prog laidBoth W) :
    Calls Try.prog 8 args W fun e W' => ∃ v, e = .returned v ∧ Rows.pathBelowSpec.post enc Try.prog Try.f8 false true false false W args v W' := by
  have hW' := hW
  obtain ⟨p, q, hA0, hV, rfl, hfz, hnd⟩ := hW
  have hA : DataW.TrodAll enc Try.prog W 0 (fun _ => true) true Try.f8.params.toList args.toList ds p := hA0
  have hsz2 : (DataW.weightsEach Try.prog (Try.f8.params.toList ++ []) (ds ++ gs)).all (· ≤ reachBytes) = true := hsz
  rw [Try.params8] at hA hval hsz2
  obtain ⟨v0, vs0, d0, ds0, p0, q0, hargs, rfl, rfl, h0, r0⟩ := trodAll_cons hA
  obtain ⟨v1, vs1, d1, ds1, p1, q1, rfl, rfl, rfl, h1, r1⟩ := trodAll_cons r0
  obtain ⟨v2, vs2, d2, ds2, p2, q2, rfl, rfl, rfl, h2, r2⟩ := trodAll_cons r1
  obtain ⟨rfl, rfl, rfl⟩ := trodAll_nil r2
  obtain rfl : args = #[v0, v1, v2] := by cases args; simp_all
  obtain ⟨rfl, rfl⟩ := trodVars_none hV
  obtain ⟨A0, n0, c0, rfl⟩ := okWide_slice Try.underlying26 (hval 0 26 v0 rfl rfl)
  have k0 := h0
  have lt0 : ∀ x ∈ p0, x.block < W.heap.size := by obtain ⟨m, hm⟩ := k0; exact DataW.trod_lt m _ _ _ hm
  have hw0 : ∀ m ∈ d0.weights Try.prog 26, m ≤ reachBytes := fun m hm => by simpa using List.all_eq_true.1 hsz2 m (DataW.weights_mem_each (j := 0) (t := 26) rfl rfl m hm)
  obtain ⟨l0, rd0, fn0, b0, nc0⟩ : ∃ l : List Bs, Reads W W.heap.size A0 n0 (svs l) ∧ Fine l ∧ n0 * 16 ≤ 140737488351232 ∧ n0 ≤ c0 := by obtain ⟨fuel, hf⟩ := h0; exact strs_in (by simpa [Value.cells] using hf) hw0
  obtain ⟨A1, n1, c1, rfl⟩ := okWide_slice Try.underlying26 (hval 1 26 v1 rfl rfl)
  have k1 := h1
  have lt1 : ∀ x ∈ p1, x.block < W.heap.size := by obtain ⟨m, hm⟩ := k1; exact DataW.trod_lt m _ _ _ hm
  have hw1 : ∀ m ∈ d1.weights Try.prog 26, m ≤ reachBytes := fun m hm => by simpa using List.all_eq_true.1 hsz2 m (DataW.weights_mem_each (j := 1) (t := 26) rfl rfl m hm)
  obtain ⟨l1, rd1, fn1, b1, nc1⟩ : ∃ l : List Bs, Reads W W.heap.size A1 n1 (svs l) ∧ Fine l ∧ n1 * 16 ≤ 140737488351232 ∧ n1 ≤ c1 := by obtain ⟨fuel, hf⟩ := h1; exact strs_in (by simpa [Value.cells] using hf) hw1
  obtain ⟨A2, n2, c2, rfl⟩ := okWide_slice Try.underlying26 (hval 2 26 v2 rfl rfl)
  have k2 := h2
  have lt2 : ∀ x ∈ p2, x.block < W.heap.size := by obtain ⟨m, hm⟩ := k2; exact DataW.trod_lt m _ _ _ hm
  have hw2 : ∀ m ∈ d2.weights Try.prog 26, m ≤ reachBytes := fun m hm => by simpa using List.all_eq_true.1 hsz2 m (DataW.weights_mem_each (j := 2) (t := 26) rfl rfl m hm)
  obtain ⟨l2, rd2, fn2, b2, nc2⟩ : ∃ l : List Bs, Reads W W.heap.size A2 n2 (svs l) ∧ Fine l ∧ n2 * 16 ≤ 140737488351232 ∧ n2 ≤ c2 := by obtain ⟨fuel, hf⟩ := h2; exact strs_in (by simpa [Value.cells] using hf) hw2
  refine (walk A0 n0 c0 l0 rd0 fn0 b0 nc0 A1 n1 c1 l1 rd1 fn1 b1 nc1 A2 n2 c2 l2 rd2 fn2 b2 nc2).mono fun e W' ⟨he, bel⟩ => ?_
  subst he
  exact ⟨_, rfl, _, _, _, [], _, [], hW', trodAll_mk1 (shut_bool Try.underlying4 _), (trodAll_cons_mk (Below.trod laidOut (by kernel_rfl) (of_decide_eq_true (by kernel_rfl)) k0 bel lt0) (trodAll_cons_mk (Below.trod laidOut (by kernel_rfl) (of_decide_eq_true (by kernel_rfl)) k1 bel lt1) (trodAll_cons_mk (Below.trod laidOut (by kernel_rfl) (of_decide_eq_true (by kernel_rfl)) k2 bel lt2) trodAll_mk0))), rfl, bel.frame _, fun h => by cases h⟩

theorem laid_met (os : Os) : laidMetH Try.prog laidBoth ((laidWorld os).forCall (fun _ _ => 0) ⟨#[], #[.slice none 0 0, .slice none 0 0, .slice none 0 0], []⟩).memory :=
  laidMetH_of_parts3 (fuel := 8) (laidMet_of_run' 8 (by kernel_rfl) (by kernel_rfl)) (by kernel_rfl) (by kernel_rfl)
theorem reads (os : Os) {H : Type} (enc : TypeId × Value → H) : ∃ places, DataW.whole enc Try.prog ((laidWorld os).forCall (fun _ _ => 0) ⟨#[], #[.slice none 0 0, .slice none 0 0, .slice none 0 0], []⟩).memory Try.f8.params.toList Rows.pathBelowSpec.vars false (#[.slice none 0 0, .slice none 0 0, .slice none 0 0] : Array Value).toList 8 = some ([.nil, .nil, .nil], [], places) :=
  ⟨[], by kernel_rfl⟩
set_option maxRecDepth 100000 in
theorem lifted (os : Os) (started : os.Started) (H : Type) (enc : TypeId × Value → H) (F : Stop.Interp) :
    ReturnsInHanded {} Try.checked os 8 .any ((OpenSpec.ofChange Rows.pathBelowSpec).preRow enc Try.prog Try.f8 Rows.pathBelowRow.domain false Rows.pathBelowRow.laid) (((OpenSpec.ofChange Rows.pathBelowSpec).at F).post enc Try.prog Try.f8 false true false false) := by
  obtain ⟨places, hx⟩ := reads os enc
  refine returnsInHanded_of_row (C := Try.checked) (s := (OpenSpec.ofChange Rows.pathBelowSpec)) own started (by kernel_rfl) Try.func8
    (witness_row_at (enc := enc) (C := Try.checked) false (laidWorld os) #[.slice none 0 0, .slice none 0 0, .slice none 0 0] rfl (by kernel_rfl) (by kernel_rfl) (by kernel_rfl)
      (OpenSpec.preRow_of_cond 8 hx (by kernel_rfl) (fun k hk => by cases hk) (by kernel_rfl) (laid_met os))) ?_
  intro W base args ds gs before hval hW _ hcond hsz hL _ _
  exact contract H enc W base args ds gs before hval hW hsz hL
theorem said : Rows.PathBelowSaid :=
  OpenClaim.holds_of_cond 8 Try.f8 rfl rfl rfl rfl rfl rfl rfl ⟨rfl, rfl, rfl, rfl, rfl⟩ rfl rfl rfl rfl rfl (by kernel_rfl) Try.func8 (by kernel_rfl)
    (of_decide_eq_true (by kernel_rfl)) (by unfold Func.isWrapper; first | (rw [if_pos (by decide +kernel)]; kernel_rfl) | (rw [if_neg (by decide +kernel)]; exact ⟨rfl, rfl⟩))
    (fun os started H enc _ F => by rw [OpenClaim.pre_eq_preRow]; exact lifted os started H enc F)
end Go.Proofs.Ytblkfiaeifckjaa.pathBelow
