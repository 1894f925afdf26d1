/-
  PathSplits is true for every text: Split tells the definition's names and errors, Parent all but the last one, and that.
  Conditions: none.
-/
import Derived.Test.YtblkfiaeifckjaaN13
namespace Go.Proofs.Ytblkfiaeifckjaa.pathSplits
open Go.ChangeShapes Go.WideShapes Go.ChangeAt Go.RowKit

set_option maxRecDepth 100000 in
set_option maxHeartbeats 2000000 in
theorem walk {w : World} (s : ByteArray) (hs : s.size ≤ 140737488351232) :
    Calls Try.prog 4 #[.string s] w fun e w' => e = .returned (.bool true) ∧ Below w.heap.size w w' := by
  rcases split_cases s.data.toList with ⟨e0, he, h1, h2⟩ | ⟨h1, h2⟩ | ⟨l, k, h1, hk, h16, x, hx, h2⟩
  · have HS := Lib.hid (fun w => split_eq s _ w (by omega) h1)
    have HR := Lib.hid (fun w => refSplit_eq s _ w (by omega) h1)
    have HP := Lib.hid (fun w => parent_eq s _ w (by omega) h2)
    have hze : (e0 != 0) = true := bne_iff_ne.2 he
    have hze2 : (e0 == 0) = false := beq_eq_false_iff_ne.2 he
    clear h1 h2
    go_enter Try.func4, Try.ntmps4
    go_wp2_with (fail)
    refine (HS.out _).mono ?_
    rintro e w1 ⟨A1, c1, rfl, hc1, hr1, hb1⟩
    go_wp2_with (fail)
    refine (HR.out _).mono ?_
    rintro e w2 ⟨A2, c2, rfl, hc2, hr2, hb2⟩
    go_wp2_with (fail)
    refine (HP.out _).mono ?_
    rintro e w3 ⟨A3, rfl, hr3, hb3⟩
    rw [sv_eq_empty]
    go_wp2_with (fail)
    refine (lives _).mono ?_
    rintro e w4 ⟨rfl, hb4⟩
    have b24 := hb3.trans (hb4.mono hb3.size)
    have b14 := hb2.trans (b24.mono hb2.size)
    have b04 := hb1.trans (b14.mono hb1.size)
    go_wp2_with (fail)
    refine (refSame _ _ _ _ _ _ [] [] _ _ _ (hr1.below b14) (hr2.below b24) (by decide)).mono ?_
    rintro e w5 ⟨rfl, q, rfl⟩
    rw [show decide (([] : List Bs) = []) = true from rfl]
    go_wp2_with (fail)
    go_ret
    exact ⟨rfl, b04.trans (drew_below _)⟩
  · have HS := Lib.hid (fun w => split_eq s _ w (by omega) h1)
    have HR := Lib.hid (fun w => refSplit_eq s _ w (by omega) h1)
    have HP := Lib.hid (fun w => parent_eq s _ w (by omega) h2)
    clear h1 h2
    go_enter Try.func4, Try.ntmps4
    go_wp2_with (fail)
    refine (HS.out _).mono ?_
    rintro e w1 ⟨A1, c1, rfl, hc1, hr1, hb1⟩
    go_wp2_with (fail)
    refine (HR.out _).mono ?_
    rintro e w2 ⟨A2, c2, rfl, hc2, hr2, hb2⟩
    go_wp2_with (fail)
    refine (HP.out _).mono ?_
    rintro e w3 ⟨A3, rfl, hr3, hb3⟩
    rw [sv_eq_empty]
    go_wp2_with (fail)
    refine (lives _).mono ?_
    rintro e w4 ⟨rfl, hb4⟩
    have b24 := hb3.trans (hb4.mono hb3.size)
    have b14 := hb2.trans (b24.mono hb2.size)
    have b04 := hb1.trans (b14.mono hb1.size)
    go_wp2_with (fail)
    refine (refSame _ _ _ _ _ _ [] [] _ _ _ (hr1.below b14) (hr2.below b24) (by decide)).mono ?_
    rintro e w5 ⟨rfl, q, rfl⟩
    rw [show decide (([] : List Bs) = []) = true from rfl]
    go_wp2_with (fail)
    go_ret
    exact ⟨rfl, b04.trans (drew_below _)⟩
  · have HS := Lib.hid (fun w => split_eq s _ w (by omega) h1)
    have HR := Lib.hid (fun w => refSplit_eq s _ w (by omega) h1)
    have HP := Lib.hid (fun w => parent_eq s _ w (by omega) h2)
    dsimp only at HS HR HP
    have htk : (l.take k).length = k := by simp; omega
    rw [hk] at HS HR
    rw [htk] at HP
    have hkz : (((k + 1 : Nat) : Int) == 0) = false := beq_eq_false_iff_ne.2 (by omega)
    have hw1 : IntKind.i64.wrap (((k + 1 : Nat) : Int) - 1) = (k : Int) := by rw [IntKind.wrap_i64]; omega
    have hw2 : wrap64 (k : Int) = (k : Int) := by unfold wrap64; omega
    clear h1 h2
    go_enter Try.func4, Try.ntmps4
    go_wp2_with (fail)
    refine (HS.out _).mono ?_
    rintro e w1 ⟨A1, c1, rfl, hc1, hr1, hb1⟩
    go_wp2_with (fail)
    refine (HR.out _).mono ?_
    rintro e w2 ⟨A2, c2, rfl, hc2, hr2, hb2⟩
    go_wp2_with (fail)
    refine (HP.out _).mono ?_
    rintro e w3 ⟨A3, rfl, hr3, hb3⟩
    go_wp2_with (fail)
    refine (lives _).mono ?_
    rintro e w4 ⟨rfl, hb4⟩
    have b24 := hb3.trans (hb4.mono hb3.size)
    have b14 := hb2.trans (b24.mono hb2.size)
    have b04 := hb1.trans (b14.mono hb1.size)
    have r2 := hr2.below b24
    go_wp2_with (fail)
    refine (refSame _ _ _ _ _ _ l l _ _ _ (hr1.below b14) r2 (by omega)).mono ?_
    rintro e w5 ⟨rfl, q, rfl⟩
    rw [show decide (l = l) = true from decide_eq_true rfl]
    obtain ⟨ad, x', rfl, _, hx', hcl⟩ := r2.str (k := k) (by omega)
    rw [hx] at hx'
    obtain rfl := Option.some.inj hx'
    unfold sv at hcl ⊢
    go_wp2_with (fail)
    refine (refSame _ _ _ _ _ _ (l.take k) (l.take k) _ _ _ ((hr3.below hb4).drewN q) (Reads.take (r2.drewN q) (by omega)) (by omega)).mono ?_
    rintro e w6 ⟨rfl, q2, rfl⟩
    rw [show decide (l.take k = l.take k) = true from decide_eq_true rfl]
    go_wp2_with (fail)
    go_ret
    exact ⟨rfl, b04.trans (drew_below _)⟩
set_option maxRecDepth 100000 in
/-- WHAT THE WALK GIVES, FOR EVERY ARGUMENT AND EVERY WORLD THAT HOLDS THE TABLES. -/
theorem contract (H : Type) (enc : TypeId × Value → H) (W : World) (base : Nat) (args : Array Value) (ds gs : List (DataW H)) (before : List MemPlace)
    (hval : ∀ (j : Nat) t v, Try.f4.params[j]? = some t → args[j]? = some v → Value.okWide Try.prog W .any base t v)
    (hW : DataW.Whole enc Try.prog Try.f4.params.toList Rows.pathSplitsSpec.vars false W args.toList ds gs before)
    (hsz : (DataW.weightsEach Try.prog (Try.f4.params.toList ++ (OpenSpec.ofChange Rows.pathSplitsSpec).bare.plain.varTypes Try.prog) (ds ++ gs)).all (· ≤ reachBytes) = true) (_hL : laidMetH Try.prog laidBoth W) :
    Calls Try.prog 4 args W fun e W' => ∃ v, e = .returned v ∧ Rows.pathSplitsSpec.post enc Try.prog Try.f4 false true false false W args v W' := by
  have hW' := hW
  obtain ⟨p, q, hA0, hV, rfl, hfz, hnd⟩ := hW
  have hA : DataW.TrodAll enc Try.prog W 0 (fun _ => true) true Try.f4.params.toList args.toList ds p := hA0
  have hsz2 : (DataW.weightsEach Try.prog (Try.f4.params.toList ++ []) (ds ++ gs)).all (· ≤ reachBytes) = true := hsz
  rw [Try.params4] at hA hval hsz2
  obtain ⟨v0, vs0, d0, ds0, p0, q0, hargs, rfl, rfl, h0, r0⟩ := trodAll_cons hA
  obtain ⟨rfl, rfl, rfl⟩ := trodAll_nil r0
  obtain rfl : args = #[v0] := by cases args; simp_all
  obtain ⟨rfl, rfl⟩ := trodVars_none hV
  have hw0 : ∀ m ∈ d0.weights Try.prog 9, m ≤ reachBytes := fun m hm => by simpa using List.all_eq_true.1 hsz2 m (DataW.weights_mem_each (j := 0) (t := 9) rfl rfl m hm)
  obtain ⟨s0, rfl, rfl, rfl, b0⟩ := str_in (hval 0 9 v0 rfl rfl) h0 hw0
  refine (walk s0 b0).mono fun e W' ⟨he, bel⟩ => ?_
  subst he
  exact ⟨_, rfl, _, _, _, [], _, [], hW', trodAll_mk1 (shut_bool Try.underlying4 _), (trodAll_cons_mk (shut_str b0) trodAll_mk0), rfl, bel.frame _, fun h => by cases h⟩

theorem laid_met (os : Os) : laidMetH Try.prog laidBoth ((laidWorld os).forCall (fun _ _ => 0) ⟨#[], #[.string ⟨#[]⟩], []⟩).memory :=
  laidMetH_of_parts3 (fuel := 8) (laidMet_of_run' 8 (by kernel_rfl) (by kernel_rfl)) (by kernel_rfl) (by kernel_rfl)
theorem reads (os : Os) {H : Type} (enc : TypeId × Value → H) : ∃ places, DataW.whole enc Try.prog ((laidWorld os).forCall (fun _ _ => 0) ⟨#[], #[.string ⟨#[]⟩], []⟩).memory Try.f4.params.toList Rows.pathSplitsSpec.vars false (#[.string ⟨#[]⟩] : Array Value).toList 8 = some ([.lit (.string [])], [], places) :=
  ⟨[], by kernel_rfl⟩
set_option maxRecDepth 100000 in
theorem lifted (os : Os) (started : os.Started) (H : Type) (enc : TypeId × Value → H) (F : Stop.Interp) :
    ReturnsInHanded {} Try.checked os 4 .any ((OpenSpec.ofChange Rows.pathSplitsSpec).preRow enc Try.prog Try.f4 Rows.pathSplitsRow.domain false Rows.pathSplitsRow.laid) (((OpenSpec.ofChange Rows.pathSplitsSpec).at F).post enc Try.prog Try.f4 false true false false) := by
  obtain ⟨places, hx⟩ := reads os enc
  refine returnsInHanded_of_row (C := Try.checked) (s := (OpenSpec.ofChange Rows.pathSplitsSpec)) own started (by kernel_rfl) Try.func4
    (witness_row_at (enc := enc) (C := Try.checked) false (laidWorld os) #[.string ⟨#[]⟩] rfl (by kernel_rfl) (by kernel_rfl) (by kernel_rfl)
      (OpenSpec.preRow_of_cond 8 hx (by kernel_rfl) (fun k hk => by cases hk) (by kernel_rfl) (laid_met os))) ?_
  intro W base args ds gs before hval hW _ hcond hsz hL _ _
  exact contract H enc W base args ds gs before hval hW hsz hL
theorem said : Rows.PathSplitsSaid :=
  OpenClaim.holds_of_cond 4 Try.f4 rfl rfl rfl rfl rfl rfl rfl ⟨rfl, rfl, rfl, rfl, rfl⟩ rfl rfl rfl rfl rfl (by kernel_rfl) Try.func4 (by kernel_rfl)
    (of_decide_eq_true (by kernel_rfl)) (by unfold Func.isWrapper; first | (rw [if_pos (by decide +kernel)]; kernel_rfl) | (rw [if_neg (by decide +kernel)]; exact ⟨rfl, rfl⟩))
    (fun os started H enc _ F => by rw [OpenClaim.pre_eq_preRow]; exact lifted os started H enc F)
end Go.Proofs.Ytblkfiaeifckjaa.pathSplits
