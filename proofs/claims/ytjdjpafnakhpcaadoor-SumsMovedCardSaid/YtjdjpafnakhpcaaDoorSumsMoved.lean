/-
  SumsMoved is true: bytes that were written to another block, or another disk, are bad, unless the sums are the same.
  Conditions: the package-level variables start as the program's text lays them.
-/
import Derived.Test.YtjdjpafnakhpcaaDoorVl
import Derived.Test.YtjdjpafnakhpcaaDoorVm
namespace Go.Proofs.YtjdjpafnakhpcaaDoor.U.sumsMoved
open Go.ChangeShapes Go.WideShapes Go.ChangeAt Go.RowKit

theorem walk {w : World} (f : Int) (_hf1 : -9223372036854775808 ≤ f) (_hf2 : f ≤ 9223372036854775807) (t : Int) (_ht1 : -9223372036854775808 ≤ t) (_ht2 : t ≤ 9223372036854775807) (y : Nat) (hy : y < 256) (z : Nat) (hz : z < 256) (dk : Int) (_hk1 : -9223372036854775808 ≤ dk) (_hk2 : dk ≤ 9223372036854775807) (hT : Tabs w) :
    Calls Tryd.prog 8 #[.int .i64 f, .int .i64 t, .int .u8 y, .int .u8 z, .int .i64 dk] w fun e w' => e = .returned (.bool true) ∧ Below w.heap.size w w' := by
  obtain ⟨K, hK, htm⟩ : ∃ K : Nat, K < 2 ∧ ((dk.tmod 2 = 0 ∧ K = 0) ∨ (dk.tmod 2 = 1 ∧ K = 1) ∨ (dk.tmod 2 = -1 ∧ K = 1)) := by
    have h1 := Int.tmod_lt_of_pos dk (show (0 : Int) < 2 by decide)
    have h2 := Int.lt_tmod_of_pos dk (show (0 : Int) < 2 by decide)
    rcases (show dk.tmod 2 = 0 ∨ dk.tmod 2 = 1 ∨ dk.tmod 2 = -1 by omega) with h | h | h
    · exact ⟨0, by decide, .inl ⟨h, rfl⟩⟩
    · exact ⟨1, by decide, .inr (.inl ⟨h, rfl⟩)⟩
    · exact ⟨1, by decide, .inr (.inr ⟨h, rfl⟩)⟩
  by_cases h : 0 ≤ f ∧ f < 37 ∧ 0 ≤ t ∧ t < 37 ∧ y ≠ z ∧ (f ≠ t ∨ K ≠ 0)
  · obtain ⟨h1, h2, h3, h4, h5, h6⟩ := h
    obtain ⟨i, rfl⟩ : ∃ i : Nat, f = (i : Int) := ⟨f.toNat, by omega⟩
    obtain ⟨j, rfl⟩ : ∃ j : Nat, t = (j : Int) := ⟨t.toNat, by omega⟩
    by_cases hij : i = j
    · subst hij
      exact mid2 i (by omega) y z hy hz h5 dk K hK (h6.elim (fun e => absurd rfl e) id) htm hT
    · exact mid i j (by omega) (by omega) hij y z hy hz h5 dk K hK htm hT
  · rcases (show (f < 0 ∨ (0 ≤ f ∧ 37 ≤ f)) ∨ ((0 ≤ f ∧ f < 37 ∧ t < 0) ∨ (0 ≤ f ∧ f < 37 ∧ 0 ≤ t ∧ 37 ≤ t)) ∨ ((0 ≤ f ∧ f < 37 ∧ 0 ≤ t ∧ t < 37 ∧ f = t ∧ K = 0)) ∨ ((0 ≤ f ∧ f < 37 ∧ 0 ≤ t ∧ t < 37 ∧ f ≠ t ∧ y = z) ∨ (0 ≤ f ∧ f < 37 ∧ 0 ≤ t ∧ t < 37 ∧ f = t ∧ K ≠ 0 ∧ y = z)) by omega) with h | h | h | h
    · exact low1 f t y z dk K hK htm h hT
    · exact low2 f t y z dk K hK htm h hT
    · exact low3 f t y z dk K hK htm h hT
    · exact low4 f t y z dk K hK htm h hT
set_option maxRecDepth 100000 in
/-- WHAT THE WALK GIVES, FOR EVERY ARGUMENT AND EVERY WORLD THAT HOLDS THE TABLES. -/
theorem contract (H : Type) (enc : TypeId × Value → H) (W : World) (base : Nat) (args : Array Value) (ds gs : List (DataW H)) (before : List MemPlace)
    (hval : ∀ (j : Nat) t v, Tryd.f8.params[j]? = some t → args[j]? = some v → Value.okWide Tryd.prog W .any base t v)
    (hW : DataW.Whole enc Tryd.prog Tryd.f8.params.toList Rows.sumsMovedSpec.vars false W args.toList ds gs before)
    (hsz : (DataW.weightsEach Tryd.prog (Tryd.f8.params.toList ++ (OpenSpec.ofChange Rows.sumsMovedSpec).bare.plain.varTypes Tryd.prog) (ds ++ gs)).all (· ≤ reachBytes) = true) (hL : laidMetH Tryd.prog laidBoth W) :
    Calls Tryd.prog 8 args W fun e W' => ∃ v, e = .returned v ∧ Rows.sumsMovedSpec.post enc Tryd.prog Tryd.f8 false true false false W args v W' := by
  have hW' := hW
  obtain ⟨p, q, hA0, hV, rfl, hfz, hnd⟩ := hW
  have hA : DataW.TrodAll enc Tryd.prog W 0 (fun _ => true) true Tryd.f8.params.toList args.toList ds p := hA0
  have hsz2 : (DataW.weightsEach Tryd.prog (Tryd.f8.params.toList ++ []) (ds ++ gs)).all (· ≤ reachBytes) = true := hsz
  rw [Tryd.params8] at hA hval hsz2
  obtain ⟨v0, vs0, d0, ds0, p0, q0, hargs, rfl, rfl, h0, r0⟩ := trodAll_cons hA
  obtain ⟨v1, vs1, d1, ds1, p1, q1, rfl, rfl, rfl, h1, r1⟩ := trodAll_cons r0
  obtain ⟨v2, vs2, d2, ds2, p2, q2, rfl, rfl, rfl, h2, r2⟩ := trodAll_cons r1
  obtain ⟨v3, vs3, d3, ds3, p3, q3, rfl, rfl, rfl, h3, r3⟩ := trodAll_cons r2
  obtain ⟨v4, vs4, d4, ds4, p4, q4, rfl, rfl, rfl, h4, r4⟩ := trodAll_cons r3
  obtain ⟨rfl, rfl, rfl⟩ := trodAll_nil r4
  obtain rfl : args = #[v0, v1, v2, v3, v4] := by cases args; simp_all
  obtain ⟨rfl, rfl⟩ := trodVars_none hV
  obtain ⟨a0, rfl, rfl, rfl, w0⟩ := open_int Tryd.underlying3 (hval 0 3 v0 rfl rfl) h0
  have bd0 := bounds_i64 w0
  obtain ⟨a1, rfl, rfl, rfl, w1⟩ := open_int Tryd.underlying3 (hval 1 3 v1 rfl rfl) h1
  have bd1 := bounds_i64 w1
  obtain ⟨a2, rfl, rfl, rfl, w2⟩ := open_int Tryd.underlying5 (hval 2 5 v2 rfl rfl) h2
  have bd2 := bounds_u8 w2
  obtain ⟨m2, hm2⟩ : ∃ m : Nat, a2 = (m : Int) := ⟨a2.toNat, by omega⟩
  obtain ⟨a3, rfl, rfl, rfl, w3⟩ := open_int Tryd.underlying5 (hval 3 5 v3 rfl rfl) h3
  have bd3 := bounds_u8 w3
  obtain ⟨m3, hm3⟩ : ∃ m : Nat, a3 = (m : Int) := ⟨a3.toNat, by omega⟩
  obtain ⟨a4, rfl, rfl, rfl, w4⟩ := open_int Tryd.underlying3 (hval 4 3 v4 rfl rfl) h4
  have bd4 := bounds_i64 w4
  have hT := tabs_of_laid hL
  subst hm2
  subst hm3
  refine (walk a0 bd0.1 bd0.2 a1 bd1.1 bd1.2 m2 (by omega) m3 (by omega) a4 bd4.1 bd4.2 hT).mono fun e W' ⟨he, bel⟩ => ?_
  subst he
  exact ⟨_, rfl, _, _, _, [], _, [], hW', trodAll_mk1 (shut_bool Tryd.underlying4 _), (trodAll_cons_mk (shut_int Tryd.underlying3 w0) (trodAll_cons_mk (shut_int Tryd.underlying3 w1) (trodAll_cons_mk (shut_int Tryd.underlying5 w2) (trodAll_cons_mk (shut_int Tryd.underlying5 w3) (trodAll_cons_mk (shut_int Tryd.underlying3 w4) trodAll_mk0))))), rfl, bel.frame _, fun h => by cases h⟩

theorem laid_met (os : Os) : laidMetH Tryd.prog laidBoth ((laidWorld os).forCall (fun _ _ => 0) ⟨#[], #[.int .i64 0, .int .i64 0, .int .u8 0, .int .u8 0, .int .i64 0], []⟩).memory :=
  laidMetH_of_parts3 (fuel := 8) (laidMet_of_run' 8 (by kernel_rfl) (by kernel_rfl)) (by kernel_rfl) (by kernel_rfl)
theorem reads (os : Os) {H : Type} (enc : TypeId × Value → H) : ∃ places, DataW.whole enc Tryd.prog ((laidWorld os).forCall (fun _ _ => 0) ⟨#[], #[.int .i64 0, .int .i64 0, .int .u8 0, .int .u8 0, .int .i64 0], []⟩).memory Tryd.f8.params.toList Rows.sumsMovedSpec.vars false (#[.int .i64 0, .int .i64 0, .int .u8 0, .int .u8 0, .int .i64 0] : Array Value).toList 8 = some ([.lit (.int .i64 0), .lit (.int .i64 0), .lit (.int .u8 0), .lit (.int .u8 0), .lit (.int .i64 0)], [], places) :=
  ⟨[], by kernel_rfl⟩
set_option maxRecDepth 100000 in
theorem lifted (os : Os) (started : os.Started) (H : Type) (enc : TypeId × Value → H) (F : Stop.Interp) :
    ReturnsInHanded {} Tryd.checked os 8 .any ((OpenSpec.ofChange Rows.sumsMovedSpec).preRow enc Tryd.prog Tryd.f8 Rows.sumsMovedRow.domain false Rows.sumsMovedRow.laid) (((OpenSpec.ofChange Rows.sumsMovedSpec).at F).post enc Tryd.prog Tryd.f8 false true false false) := by
  obtain ⟨places, hx⟩ := reads os enc
  refine returnsInHanded_of_row (C := Tryd.checked) (s := (OpenSpec.ofChange Rows.sumsMovedSpec)) own started (by kernel_rfl) Tryd.func8
    (witness_row_at (enc := enc) (C := Tryd.checked) false (laidWorld os) #[.int .i64 0, .int .i64 0, .int .u8 0, .int .u8 0, .int .i64 0] rfl (by kernel_rfl) (by kernel_rfl) (by kernel_rfl)
      (OpenSpec.preRow_of_cond 8 hx (by kernel_rfl) (fun k hk => by cases hk) (by kernel_rfl) (laid_met os))) ?_
  intro W base args ds gs before hval hW _ hcond hsz hL _ _
  exact contract H enc W base args ds gs before hval hW hsz hL
theorem said : Rows.SumsMovedSaid :=
  OpenClaim.holds_of_cond 8 Tryd.f8 rfl rfl rfl rfl rfl rfl rfl ⟨rfl, rfl, rfl, rfl, rfl⟩ rfl rfl rfl rfl rfl (by kernel_rfl) Tryd.func8 (by kernel_rfl)
    (of_decide_eq_true (by kernel_rfl)) (by unfold Func.isWrapper; first | (rw [if_pos (by decide +kernel)]; kernel_rfl) | (rw [if_neg (by decide +kernel)]; exact ⟨rfl, rfl⟩))
    (fun os started H enc _ F => by rw [OpenClaim.pre_eq_preRow]; exact lifted os started H enc F)
theorem plain (f : FuncId) (fn : Func) (hf : Tryd.pinned.checked.prog.funcNamed "ashlar/ashlarlaw06.SumsMoved" = some f) (hfn : Tryd.pinned.checked.prog.funcs[f]? = some fn) :
    false = Tryd.pinned.checked.prog.looks [] ∧ ∀ (j : Nat) t, fn.params[j]? = some t → Tryd.pinned.checked.prog.wantsStandIn t = false := by
  obtain rfl : f = 8 := Option.some.inj ((show Tryd.prog.funcNamed "ashlar/ashlarlaw06.SumsMoved" = some 8 by kernel_rfl).symm.trans hf) |>.symm
  obtain rfl : fn = Tryd.f8 := (Option.some.inj (Tryd.func8.symm.trans hfn)).symm
  refine ⟨by kernel_rfl, fun j t ht => ?_⟩
  rw [Tryd.params8] at ht
  have hm : t ∈ [3, 3, 5, 5, 3] := by simpa using Array.mem_of_getElem? ht
  have hall : ([3, 3, 5, 5, 3].all fun u => !Tryd.prog.wantsStandIn u) = true := by kernel_rfl
  exact (show Tryd.prog.wantsStandIn t = false by simpa using List.all_eq_true.1 hall t hm)

/-- ████ THE CARD ████ -/
theorem card : Rows.SumsMovedCardSaid :=
  Claim7.holds_tied_plain_at .later [] _ _ _ _ said (fun _ h => by cases h) (by kernel_rfl) (fun _ h => by cases h) sumsMoved_row_tie rfl ⟨rfl, rfl⟩ (by kernel_rfl) rfl plain (by kernel_rfl)
end Go.Proofs.YtjdjpafnakhpcaaDoor.U.sumsMoved
