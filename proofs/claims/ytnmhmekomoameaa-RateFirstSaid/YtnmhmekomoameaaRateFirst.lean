/-
  RateFirst is true for every slice of rows: the row that is ranked first has the worst rate of all.
  Conditions: none.
-/
import Derived.Test.YtnmhmekomoameaaRf
namespace Go.Proofs.Ytnmhmekomoameaa.rateFirst
open Go.ChangeShapes Go.WideShapes Go.ChangeAt Go.RowKit

/-- Nothing stands above the first. -/
theorem first_top {abv : Nat → Nat → Bool} (h : Rk.Weak abv) (n i : Nat) (hi : i < n) : abv i ((Rk.rankTo abv n).getD 0 0) = false := by
  have hs := Rk.rank_sorted h n
  have hm : i ∈ Rk.rankTo abv n := (Rk.rank_perm n).mem_iff.2 (List.mem_range.2 hi)
  generalize Rk.rankTo abv n = l at *
  cases l with
  | nil => simp at hm
  | cons f r =>
    have hf := (List.pairwise_cons.1 hs).1
    show abv i f = false
    rcases List.mem_cons.1 hm with rfl | hm
    · exact h.irr _
    · have := hf i hm
      simp only [Rk.ahd, Bool.or_eq_true, Bool.and_eq_true, Bool.not_eq_true', decide_eq_true_eq] at this
      rcases this with e | ⟨e, _⟩
      · exact h.asym _ _ e
      · exact e

set_option maxHeartbeats 1000000 in
theorem walk {w : World} (A : Option Addr) (n c : Nat) (rs : List Row) (hr : RowsAre w w.heap.size A n rs) (hn : n ≤ 140737488351232) :
    Calls Try.prog 11 #[.slice A n c] w fun e w' => e = .returned (.bool true) ∧ Below w.heap.size w w' := by
  have HR := Lib.hid hr
  have hv := Lib.hid (lives_yes)
  clear hr
  by_cases hbig : 17 < n
  · have q1 := Lib.hid (fun w => rank_no A n c w hbig)
    go_enter Try.func11, Try.ntmps11
    go_wp2_with (first
      | (go_at_call 13; refine (hv.out _).mono ?_; rintro e w1 ⟨rfl, hb1⟩)
      | (go_at_call 25; refine (q1.out _).mono ?_; rintro e w' ⟨rfl, rfl⟩))
    go_ret
    exact ⟨rfl, hb1⟩
  · go_enter Try.func11, Try.ntmps11
    go_wp2_with fail
    refine (rank_any A n c _ rs _ HR.out (Nat.le_refl _) (by omega)).mono ?_
    rintro e w1 ⟨v1, rfl, hown1, hb1⟩
    have hlenL := Rk.rank_length (abv := abvR rs) n
    have hget := Lib.hid (fun h : 0 < n => rank_get_lt (abv := abvR rs) n 0 h)
    have htop := Lib.hid (first_top (weakR rs) n)
    generalize Rk.rankTo (abvR rs) n = l at *
    go_wp2_with fail
    by_cases h0 : n = 0
    · subst h0
      obtain ⟨A1, c1, rfl, hr1, _, _⟩ := own_shape hown1
      clear hown1
      refine (hv.out _).mono ?_
      rintro e w2 ⟨rfl, hb2⟩
      go_wp2_with fail
      go_ret
      exact ⟨rfl, below_on hb1 hb2⟩
    · obtain ⟨g1, c1, rfl, _, _⟩ := hown1.form (by omega)
      have hr1 := Reads.of_own hown1
      clear hown1
      refine (hv.out _).mono ?_
      rintro e w2 ⟨rfl, hb2⟩
      have hr2 := reads_over hr1 hb2
      have hb3 := below_on hb1 hb2
      clear hr1 hb1 hb2
      obtain ⟨ad, e1, _, hc0⟩ := hr2.num (k := 0) (by omega)
      injection e1 with e1
      subst e1
      have hc0' : w2.cell? ⟨g1, 0, none⟩ = some (.int .i64 ((l.getD 0 0 : Nat) : Int)) := hc0
      have hfn := hget.out (by omega)
      clear hc0 hget hr2
      generalize l.getD 0 0 = f at *
      have HRw := Lib.hid (HR.out.below hb3)
      obtain ⟨adr, rf, rfl, hbr, hrf, hcf, hdf, _, hnf⟩ := HRw.out.row hfn
      have hn0 : 0 < n := by omega
      go_wp2_with fail
      refine (worst_any rf.A rf.n rf.c _ rf.l _ hdf hnf).mono ?_
      rintro e w' ⟨rfl, rfl⟩
      have hrowf := rowAt_of hrf
      clear hdf hrf hc0'
      go_wp2_with fail
      generalize hbfd : decide (0 < rf.n) = bf at *
      have Hbf := Lib.hid hbfd
      clear hbfd
      go_loopw [8] (fun s8 wx => ∃ i : Nat, i ≤ n ∧ s8 = .int .i64 i ∧ Below w.heap.size w wx) (fun s8 _ => n - (intOf s8).toNat)
      case atStart => exact ⟨0, Nat.zero_le _, rfl, hb3⟩
      case round =>
        obtain ⟨i, hi, rfl, hb4⟩ := hrel
        by_cases hlt : i < n
        · have HRi := HR.out.below hb4
          obtain ⟨ad1, ri, e1, hbi, hri, hci, hdi, _, hni⟩ := HRi.row hlt
          injection e1 with e1
          subst e1
          obtain ⟨ad2, rf2, e2, _, hrf2, hcf2, hdf2, _, _⟩ := HRi.row hfn
          injection e2 with e2
          subst e2
          have hrowi := rowAt_of hri
          have hrf3 := rowAt_of hrf2
          rw [hrowf] at hrf3
          subst hrf3
          have hab := htop.out i hlt
          unfold abvR at hab
          rw [hrowi, hrowf] at hab
          have ti : ri.there = decide (0 < ri.n) := rfl
          have tf : rf.there = decide (0 < rf.n) := rfl
          have hpi := wst_lt ri.l ri.n ri.n
          have hpf := wst_lt rf.l rf.n rf.n
          clear hri hrf2 hrowi HRi
          by_cases h1 : 0 < ri.n
          · have hpi2 := hpi h1 (Nat.le_refl _)
            rw [ti, decide_eq_true h1, Bool.true_and] at hab
            have q1 : ∀ w', w' = wr → Calls Try.prog 22 #[.slice ri.A ri.n ri.c] w' fun e w'' => e = .returned (.tuple #[.int .i64 (wst ri.l ri.n), .bool true]) ∧ w' = w'' := fun w' e => by
              subst e
              have := worst_any ri.A ri.n ri.c _ ri.l _ hdi hni
              rwa [decide_eq_true h1] at this
            by_cases h2 : 0 < rf.n
            · have hpf2 := hpf h2 (Nat.le_refl _)
              rw [tf, decide_eq_true h2, Bool.not_true, Bool.false_or] at hab
              obtain ⟨ai, hAi, hbi2, hcx⟩ := hdi.fl hpi2
              obtain ⟨af, hAf, hbf2, hcy⟩ := hdf2.fl hpf2
              rw [Row.top_there h1, Row.top_there h2] at hab
              have HC := Lib.hid (fun w => (show Calls Try.prog 20 #[.float .f64 (ri.l.getD (wst ri.l ri.n) 0), .float .f64 (rf.l.getD (wst rf.l rf.n) 0)] w fun e w' => e = .returned (.int .i64 (cmpT (ri.l.getD (wst ri.l ri.n) 0) (rf.l.getD (wst rf.l rf.n) 0))) ∧ w = w' from compare_any _ _ w))
              obtain rfl : bf = true := Hbf.out.symm.trans (decide_eq_true h2)
              rw [hAi] at hci q1
              rw [hAf] at hcf2
              have hi1 : (i : Int) < (n : Int) := by omega
              have hi2 : (f : Int) < (n : Int) := by omega
              have hi3 : ((wst ri.l ri.n : Nat) : Int) < (ri.n : Int) := by omega
              have hi4 : ((wst rf.l rf.n : Nat) : Int) < (rf.n : Int) := by omega
              clear hpi hpf ti tf hdi hdf2 htop HR HRw hAi hAf
              generalize ri.l.getD (wst ri.l ri.n) 0 = x at *
              generalize rf.l.getD (wst rf.l rf.n) 0 = y at *
              generalize wst ri.l ri.n = k1 at *
              generalize wst rf.l rf.n = k2 at *
              generalize cmpT x y = z at *
              go_wp2_with (go_at_call 22; refine (q1 _ rfl).mono ?_; rintro e w' ⟨rfl, rfl⟩)
              go_quiet ((go_at_call 20; refine (HC.out _).mono ?_; rintro e w' ⟨rfl, rfl⟩; exact ⟨rfl, _, rfl⟩))
              go_wp2
              go_roundw
              case rel => exact ⟨i + 1, by omega, by go_num, hb4.trans ⟨rfl, rfl, rfl, Nat.le_refl _, fun _ _ => rfl⟩⟩
              case measure => simp [intOf]; omega
            · rw [tf, decide_eq_false h2] at hab
              simp at hab
          · have q1 : ∀ w', w' = wr → Calls Try.prog 22 #[.slice ri.A ri.n ri.c] w' fun e w'' => e = .returned (.tuple #[.int .i64 (wst ri.l ri.n), .bool false]) ∧ w' = w'' := fun w' e => by
              subst e
              have := worst_any ri.A ri.n ri.c _ ri.l _ hdi hni
              rwa [decide_eq_false h1] at this
            have hi1 : (i : Int) < (n : Int) := by omega
            clear hpi hpf ti tf hdi hdf2 htop HR HRw hab
            generalize wst ri.l ri.n = k1 at *
            go_wp2_with (go_at_call 22; refine (q1 _ rfl).mono ?_; rintro e w' ⟨rfl, rfl⟩)
            go_quiet (fail)
            go_wp2
            go_roundw
            case rel => exact ⟨i + 1, by omega, by go_num, hb4.trans ⟨rfl, rfl, rfl, Nat.le_refl _, fun _ _ => rfl⟩⟩
            case measure => simp [intOf]; omega
        · obtain rfl : i = n := by omega
          go_wp2
          go_ret
          exact ⟨rfl, hb4⟩

set_option maxRecDepth 100000 in
/-- WHAT THE WALK GIVES, FOR EVERY ARGUMENT AND EVERY WORLD THAT HOLDS THE TABLES. -/
theorem contract (H : Type) (enc : TypeId × Value → H) (W : World) (base : Nat) (args : Array Value) (ds gs : List (DataW H)) (before : List MemPlace)
    (hval : ∀ (j : Nat) t v, Try.f11.params[j]? = some t → args[j]? = some v → Value.okWide Try.prog W .any base t v)
    (hW : DataW.Whole enc Try.prog Try.f11.params.toList Rows.rateFirstSpec.vars false W args.toList ds gs before)
    (hsz : (DataW.weightsEach Try.prog (Try.f11.params.toList ++ (OpenSpec.ofChange Rows.rateFirstSpec).bare.plain.varTypes Try.prog) (ds ++ gs)).all (· ≤ reachBytes) = true) (_hL : laidMetH Try.prog laidBoth W) :
    Calls Try.prog 11 args W fun e W' => ∃ v, e = .returned v ∧ Rows.rateFirstSpec.post enc Try.prog Try.f11 false true false false W args v W' := by
  have hW' := hW
  obtain ⟨p, q, hA0, hV, rfl, hfz, hnd⟩ := hW
  have hA : DataW.TrodAll enc Try.prog W 0 (fun _ => true) true Try.f11.params.toList args.toList ds p := hA0
  have hsz2 : (DataW.weightsEach Try.prog (Try.f11.params.toList ++ []) (ds ++ gs)).all (· ≤ reachBytes) = true := hsz
  rw [Try.params11] at hA hval hsz2
  obtain ⟨v0, vs0, d0, ds0, p0, q0, hargs, rfl, rfl, h0, r0⟩ := trodAll_cons hA
  obtain ⟨rfl, rfl, rfl⟩ := trodAll_nil r0
  obtain rfl : args = #[v0] := by cases args; simp_all
  obtain ⟨rfl, rfl⟩ := trodVars_none hV
  obtain ⟨A0, n0, c0, rfl⟩ := okWide_slice Try.underlying38 (hval 0 38 v0 rfl rfl)
  have k0 := h0
  have lt0 : ∀ x ∈ p0, x.block < W.heap.size := by obtain ⟨m, hm⟩ := k0; exact DataW.trod_lt m _ _ _ hm
  have hw0 : ∀ m ∈ d0.weights Try.prog 38, m ≤ reachBytes := fun m hm => by simpa using List.all_eq_true.1 hsz2 m (DataW.weights_mem_each (j := 0) (t := 38) rfl rfl m hm)
  obtain ⟨rd0, b0⟩ : RowsAre W W.heap.size A0 n0 (rlist W A0 n0) ∧ n0 ≤ 140737488351232 := by
    obtain ⟨fuel, hf⟩ := h0
    have hf2 : DataW.trod enc Try.prog W 0 (fun _ => true) true fuel 38 [.slice A0 n0 c0] = some (d0, p0) := by simpa [Value.cells] using hf
    exact rows_in hf2 hw0
  refine (walk A0 n0 c0 _ rd0 b0).mono fun e W' ⟨he, bel⟩ => ?_
  subst he
  exact ⟨_, rfl, _, _, _, [], _, [], hW', trodAll_mk1 (shut_bool Try.underlying4 _), (trodAll_cons_mk (Below.trod laidOut (by kernel_rfl) (of_decide_eq_true (by kernel_rfl)) k0 bel lt0) trodAll_mk0), rfl, bel.frame _, fun h => by cases h⟩

theorem laid_met (os : Os) : laidMetH Try.prog laidBoth ((laidWorld os).forCall (fun _ _ => 0) ⟨#[], #[.slice none 0 0], []⟩).memory :=
  laidMetH_of_parts3 (fuel := 8) (laidMet_of_run' 8 (by kernel_rfl) (by kernel_rfl)) (by kernel_rfl) (by kernel_rfl)
theorem reads (os : Os) {H : Type} (enc : TypeId × Value → H) : ∃ places, DataW.whole enc Try.prog ((laidWorld os).forCall (fun _ _ => 0) ⟨#[], #[.slice none 0 0], []⟩).memory Try.f11.params.toList Rows.rateFirstSpec.vars false (#[.slice none 0 0] : Array Value).toList 8 = some ([.nil], [], places) :=
  ⟨[], by kernel_rfl⟩
set_option maxRecDepth 100000 in
theorem lifted (os : Os) (started : os.Started) (H : Type) (enc : TypeId × Value → H) (F : Stop.Interp) :
    ReturnsInHanded {} Try.checked os 11 .any ((OpenSpec.ofChange Rows.rateFirstSpec).preRow enc Try.prog Try.f11 Rows.rateFirstRow.domain false Rows.rateFirstRow.laid) (((OpenSpec.ofChange Rows.rateFirstSpec).at F).post enc Try.prog Try.f11 false true false false) := by
  obtain ⟨places, hx⟩ := reads os enc
  refine returnsInHanded_of_row (C := Try.checked) (s := (OpenSpec.ofChange Rows.rateFirstSpec)) own started (by kernel_rfl) Try.func11
    (witness_row_at (enc := enc) (C := Try.checked) false (laidWorld os) #[.slice none 0 0] rfl (by kernel_rfl) (by kernel_rfl) (by kernel_rfl)
      (OpenSpec.preRow_of_cond 8 hx (by kernel_rfl) (fun k hk => by cases hk) (by kernel_rfl) (laid_met os))) ?_
  intro W base args ds gs before hval hW _ hcond hsz hL _ _
  exact contract H enc W base args ds gs before hval hW hsz hL
theorem said : Rows.RateFirstSaid :=
  OpenClaim.holds_of_cond 11 Try.f11 rfl rfl rfl rfl rfl rfl rfl ⟨rfl, rfl, rfl, rfl, rfl⟩ rfl rfl rfl rfl rfl (by kernel_rfl) Try.func11 (by kernel_rfl)
    (of_decide_eq_true (by kernel_rfl)) (by unfold Func.isWrapper; first | (rw [if_pos (by decide +kernel)]; kernel_rfl) | (rw [if_neg (by decide +kernel)]; exact ⟨rfl, rfl⟩))
    (fun os started H enc _ F => by rw [OpenClaim.pre_eq_preRow]; exact lifted os started H enc F)
end Go.Proofs.Ytnmhmekomoameaa.rateFirst
