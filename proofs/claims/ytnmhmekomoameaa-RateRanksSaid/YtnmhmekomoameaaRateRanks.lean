/-
  RateRanks is true for every slice of rows: the order of the rows by their worst rates is the definition's.
  Conditions: none.
-/
import Derived.Test.YtnmhmekomoameaaRf
namespace Go.Proofs.Ytnmhmekomoameaa.rateRanks
open Go.ChangeShapes Go.WideShapes Go.ChangeAt Go.RowKit

set_option maxHeartbeats 1000000 in
theorem walk {w : World} (A : Option Addr) (n c : Nat) (rs : List Row) (hr : RowsAre w w.heap.size A n rs) (hn : n ≤ 140737488351232) :
    Calls Try.prog 10 #[.slice A n c] w fun e w' => e = .returned (.bool true) ∧ Below w.heap.size w w' := by
  have HR := Lib.hid hr
  have hv := Lib.hid (lives_yes)
  clear hr
  go_enter Try.func10, Try.ntmps10
  go_wp2
  go_loop [3, 4] (fun s3 s4 => ∃ (i : Nat) (z : Int), i ≤ n ∧ s4 = .int .i64 i ∧ s3 = .int .i64 z) (fun _ s4 => n - (intOf s4).toNat)
  case atStart => exact ⟨0, 0, Nat.zero_le _, rfl, rfl⟩
  case round =>
    obtain ⟨i, z, hi, rfl, rfl⟩ := hrel
    by_cases hlt : i < n
    · obtain ⟨ad, r, rfl, _, _, hc, _⟩ := HR.out.row hlt
      go_wp2
      go_round
      case rel => exact ⟨i + 1, _, by omega, by go_num, rfl⟩
      case measure => simp [intOf]; omega
    · obtain rfl : i = n := by omega
      clear hlt
      by_cases hz : z > 300
      · have hd : decide (z > 300) = true := decide_eq_true hz
        go_wp2_with (go_at_call 13; refine (hv.out _).mono ?_; rintro e w1 ⟨rfl, hb1⟩)
        go_ret
        exact ⟨rfl, hb1⟩
      · have hd : decide (z > 300) = false := decide_eq_false hz
        by_cases hbig : 17 < i
        · have q1 := Lib.hid (fun w => rank_no A i c w hbig)
          have q2 := Lib.hid (fun w => refRank_no A i c w hbig)
          go_wp2_with (first
            | (go_at_call 13; refine (hv.out _).mono ?_; rintro e w1 ⟨rfl, hb1⟩)
            | (go_at_call 25; refine (q1.out _).mono ?_; rintro e w' ⟨rfl, rfl⟩)
            | (go_at_call 26; refine (q2.out _).mono ?_; rintro e w' ⟨rfl, rfl⟩))
          go_loop [9] (fun s9 => s9 = .int .i64 0) (fun _ => 0)
          case atStart => rfl
          case round =>
            obtain rfl := hrel
            go_wp2
            go_ret
            exact ⟨rfl, hb1⟩
        · go_wp2_with fail
          refine (rank_any A i c _ rs _ HR.out (Nat.le_refl _) (by omega)).mono ?_
          rintro e w1 ⟨v1, rfl, hown1, hb1⟩
          obtain ⟨A1, c1, rfl, hr1, _, _⟩ := own_shape hown1
          clear hown1
          go_wp2_with fail
          have hrw : RowsAre w1 w.heap.size A i rs := HR.out.below hb1
          refine (refRank_any A i c _ rs _ hrw hb1.size (by omega)).mono ?_
          rintro e w2 ⟨v2, rfl, hown2, hb2⟩
          obtain ⟨A2, c2, rfl, hr2, _, _⟩ := own_shape hown2
          have hr3 := reads_over hr1 hb2
          have hb3 := below_on hb1 hb2
          clear hown2 hr1 hb1 hb2
          go_wp2_with fail
          refine (hv.out _).mono ?_
          rintro e w3 ⟨rfl, hb4⟩
          have hra := reads_over hr3 hb4
          have hrb := reads_over hr2 hb4
          have hb5 := below_on hb3 hb4
          clear hr3 hr2 hb3 hb4
          generalize Rk.rankTo (abvR rs) i = l at *
          go_wp2_with fail
          go_loopw [9] (fun s9 wx => ∃ k : Nat, k ≤ i ∧ s9 = .int .i64 k ∧ Below w.heap.size w wx ∧ Reads wx w3.heap.size A1 i (ints l) ∧ Reads wx w3.heap.size A2 i (ints l)) (fun s9 _ => i - (intOf s9).toNat)
          case atStart => exact ⟨0, Nat.zero_le _, rfl, hb5, hra, hrb⟩
          case round =>
            obtain ⟨k, hk, rfl, hb6, hrc, hrd⟩ := hrel
            by_cases hlk : k < i
            · obtain ⟨ad, rfl, _, hc1⟩ := hrc.num hlk
              obtain ⟨ad2, rfl, _, hc2⟩ := hrd.num hlk
              generalize l.getD k 0 = x at *
              go_wp2
              go_quiet (fail)
              go_wp2
              go_roundw
              case rel => exact ⟨k + 1, by omega, by go_num, hb6.trans ⟨rfl, rfl, rfl, Nat.le_refl _, fun _ _ => rfl⟩, hrc, hrd⟩
              case measure => simp [intOf]; omega
            · obtain rfl : k = i := by omega
              go_wp2
              go_ret
              exact ⟨rfl, hb6⟩

set_option maxRecDepth 100000 in
/-- WHAT THE WALK GIVES, FOR EVERY ARGUMENT AND EVERY WORLD THAT HOLDS THE TABLES. -/
theorem contract (H : Type) (enc : TypeId × Value → H) (W : World) (base : Nat) (args : Array Value) (ds gs : List (DataW H)) (before : List MemPlace)
    (hval : ∀ (j : Nat) t v, Try.f10.params[j]? = some t → args[j]? = some v → Value.okWide Try.prog W .any base t v)
    (hW : DataW.Whole enc Try.prog Try.f10.params.toList Rows.rateRanksSpec.vars false W args.toList ds gs before)
    (hsz : (DataW.weightsEach Try.prog (Try.f10.params.toList ++ (OpenSpec.ofChange Rows.rateRanksSpec).bare.plain.varTypes Try.prog) (ds ++ gs)).all (· ≤ reachBytes) = true) (_hL : laidMetH Try.prog laidBoth W) :
    Calls Try.prog 10 args W fun e W' => ∃ v, e = .returned v ∧ Rows.rateRanksSpec.post enc Try.prog Try.f10 false true false false W args v W' := by
  have hW' := hW
  obtain ⟨p, q, hA0, hV, rfl, hfz, hnd⟩ := hW
  have hA : DataW.TrodAll enc Try.prog W 0 (fun _ => true) true Try.f10.params.toList args.toList ds p := hA0
  have hsz2 : (DataW.weightsEach Try.prog (Try.f10.params.toList ++ []) (ds ++ gs)).all (· ≤ reachBytes) = true := hsz
  rw [Try.params10] at hA hval hsz2
  obtain ⟨v0, vs0, d0, ds0, p0, q0, hargs, rfl, rfl, h0, r0⟩ := trodAll_cons hA
  obtain ⟨rfl, rfl, rfl⟩ := trodAll_nil r0
  obtain rfl : args = #[v0] := by cases args; simp_all
  obtain ⟨rfl, rfl⟩ := trodVars_none hV
  obtain ⟨A0, n0, c0, rfl⟩ := okWide_slice Try.underlying38 (hval 0 38 v0 rfl rfl)
  have k0 := h0
  have lt0 : ∀ x ∈ p0, x.block < W.heap.size := by obtain ⟨m, hm⟩ := k0; exact DataW.trod_lt m _ _ _ hm
  have hw0 : ∀ m ∈ d0.weights Try.prog 38, m ≤ reachBytes := fun m hm => by simpa using List.all_eq_true.1 hsz2 m (DataW.weights_mem_each (j := 0) (t := 38) rfl rfl m hm)
  obtain ⟨rd0, b0⟩ : RowsAre W W.heap.size A0 n0 (rlist W A0 n0) ∧ n0 ≤ 140737488351232 := by
    obtain ⟨fuel, hf⟩ := h0
    have hf2 : DataW.trod enc Try.prog W 0 (fun _ => true) true fuel 38 [.slice A0 n0 c0] = some (d0, p0) := by simpa [Value.cells] using hf
    exact rows_in hf2 hw0
  refine (walk A0 n0 c0 _ rd0 b0).mono fun e W' ⟨he, bel⟩ => ?_
  subst he
  exact ⟨_, rfl, _, _, _, [], _, [], hW', trodAll_mk1 (shut_bool Try.underlying4 _), (trodAll_cons_mk (Below.trod laidOut (by kernel_rfl) (of_decide_eq_true (by kernel_rfl)) k0 bel lt0) trodAll_mk0), rfl, bel.frame _, fun h => by cases h⟩

theorem laid_met (os : Os) : laidMetH Try.prog laidBoth ((laidWorld os).forCall (fun _ _ => 0) ⟨#[], #[.slice none 0 0], []⟩).memory :=
  laidMetH_of_parts3 (fuel := 8) (laidMet_of_run' 8 (by kernel_rfl) (by kernel_rfl)) (by kernel_rfl) (by kernel_rfl)
theorem reads (os : Os) {H : Type} (enc : TypeId × Value → H) : ∃ places, DataW.whole enc Try.prog ((laidWorld os).forCall (fun _ _ => 0) ⟨#[], #[.slice none 0 0], []⟩).memory Try.f10.params.toList Rows.rateRanksSpec.vars false (#[.slice none 0 0] : Array Value).toList 8 = some ([.nil], [], places) :=
  ⟨[], by kernel_rfl⟩
set_option maxRecDepth 100000 in
theorem lifted (os : Os) (started : os.Started) (H : Type) (enc : TypeId × Value → H) (F : Stop.Interp) :
    ReturnsInHanded {} Try.checked os 10 .any ((OpenSpec.ofChange Rows.rateRanksSpec).preRow enc Try.prog Try.f10 Rows.rateRanksRow.domain false Rows.rateRanksRow.laid) (((OpenSpec.ofChange Rows.rateRanksSpec).at F).post enc Try.prog Try.f10 false true false false) := by
  obtain ⟨places, hx⟩ := reads os enc
  refine returnsInHanded_of_row (C := Try.checked) (s := (OpenSpec.ofChange Rows.rateRanksSpec)) own started (by kernel_rfl) Try.func10
    (witness_row_at (enc := enc) (C := Try.checked) false (laidWorld os) #[.slice none 0 0] rfl (by kernel_rfl) (by kernel_rfl) (by kernel_rfl)
      (OpenSpec.preRow_of_cond 8 hx (by kernel_rfl) (fun k hk => by cases hk) (by kernel_rfl) (laid_met os))) ?_
  intro W base args ds gs before hval hW _ hcond hsz hL _ _
  exact contract H enc W base args ds gs before hval hW hsz hL
theorem said : Rows.RateRanksSaid :=
  OpenClaim.holds_of_cond 10 Try.f10 rfl rfl rfl rfl rfl rfl rfl ⟨rfl, rfl, rfl, rfl, rfl⟩ rfl rfl rfl rfl rfl (by kernel_rfl) Try.func10 (by kernel_rfl)
    (of_decide_eq_true (by kernel_rfl)) (by unfold Func.isWrapper; first | (rw [if_pos (by decide +kernel)]; kernel_rfl) | (rw [if_neg (by decide +kernel)]; exact ⟨rfl, rfl⟩))
    (fun os started H enc _ F => by rw [OpenClaim.pre_eq_preRow]; exact lifted os started H enc F)
end Go.Proofs.Ytnmhmekomoameaa.rateRanks
